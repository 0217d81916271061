/- Kb, Kg, Kc0, Kc1, Kc2, Kc3, Kc4, Kc5, Kc6, Kc7, Kc8, Kc, Ap, Aq. -/
import Derived.Test.YtagebcbnenehfaaGreatX18
namespace Go.Proofs.YtagebcbnenehfaaGreat
open Go.RowKit
set_option maxRecDepth 100000
set_option linter.unusedVariables false
set_option linter.unusedSimpArgs false
set_option maxHeartbeats 40000000
def inS (a c : Int) (n : Nat) : Bool := decide (c = 0 ∨ a + c ≤ n)
theorem u64n {n : Nat} (h : n ≤ 4096) : IntKind.u64.wrap (n : Int) = n := wrap64_of (by omega) (by omega)
theorem isIn_any {a c : Int} {n cap : Nat} {sp : Option Addr} (w : World) (ha : U64 a) (hc : U64 c) (hn : n ≤ 4096) :
   Calls Tryz.prog 134 #[.agg #[.int .u64 a, .int .u64 c], .slice sp n cap] w fun e w' => e = .returned (.bool (inS a c n)) ∧ Below w.heap.size w w' := by
 have hnn := u64n hn
 have ha1 := ha.1
 have hc1 := hc.1
 have hb := alloc_bel' w (.cells #[.int .u64 a, .int .u64 c] 156)
 by_cases h0 : c = 0
 · subst h0
   have hr : inS a 0 n = true := decide_eq_true (.inl rfl)
   rw [hr]
   go_enter Tryz.func134, Tryz.ntmps134
   go_wp2_with fail
   go_ret
   exact ⟨rfl, hb⟩
 · have e0 : (c == 0) = false := by simpa using h0
   by_cases h1 : c ≤ n
   · have hw : IntKind.u64.wrap ((n : Int) - c) = n - c := wrap64_of (by omega) (by omega)
     by_cases h2 : a ≤ n - c
     · have hr : inS a c n = true := decide_eq_true (.inr (by omega))
       rw [hr]
       go_enter Tryz.func134, Tryz.ntmps134
       go_wp2_with fail
       go_ret
       exact ⟨rfl, hb⟩
     · have hr : inS a c n = false := decide_eq_false (by omega)
       rw [hr]
       go_enter Tryz.func134, Tryz.ntmps134
       go_wp2_with fail
       go_ret
       exact ⟨rfl, hb⟩
   · have hr : inS a c n = false := decide_eq_false (by omega)
     rw [hr]
     go_enter Tryz.func134, Tryz.ntmps134
     go_wp2_with fail
     go_ret
     exact ⟨rfl, hb⟩
theorem mayMark_any {i : Int} (w : World) (hi : 0 ≤ i ∧ i < 4294967296) :
   Calls Tryz.prog 169 #[.int .u32 i] w fun e w' => e = .returned (.bool (mkL i).isSome) ∧ w' = w := by
 unfold mkL
 by_cases h0 : i = 0
 · subst h0
   rw [if_pos rfl]
   go_enter Tryz.func169, Tryz.ntmps169
   go_wp2_with fail
   go_ret
   exact ⟨rfl, rfl⟩
 · have e0 : (i == 0) = false := by simpa using h0
   rw [if_neg h0]
   by_cases h1 : 256 ≤ i
   · by_cases h2 : i ≤ 511
     · rw [if_pos ⟨h1, h2⟩]
       go_enter Tryz.func169, Tryz.ntmps169
       go_wp2_with fail
       go_ret
       exact ⟨rfl, rfl⟩
     · rw [if_neg (fun h => h2 h.2)]
       go_enter Tryz.func169, Tryz.ntmps169
       go_wp2_with fail
       go_ret
       exact ⟨rfl, rfl⟩
   · rw [if_neg (fun h => h1 h.1)]
     go_enter Tryz.func169, Tryz.ntmps169
     go_wp2_with fail
     go_ret
     exact ⟨rfl, rfl⟩
theorem markOf_any {i : Int} {L : List Int} (w : World) (hi : 0 ≤ i ∧ i < 4294967296) (hL : mkL i = some L) :
   Calls Tryz.prog 138 #[.int .u32 i] w fun e w' => ∃ v, e = .returned v ∧ w'.ownsRow w.heap.size 5 1 v L.length (by8 L) ∧ Below w.heap.size w w' := by
 unfold mkL at hL
 by_cases h0 : i = 0
 · rw [if_pos h0] at hL
   cases hL
   subst h0
   go_enter Tryz.func138, Tryz.ntmps138
   go_wp2
   go_ret
   exact ⟨_, rfl, World.ownsRow_nil _ _ _ _, Below.refl _ _⟩
 · rw [if_neg h0] at hL
   by_cases h1 : 256 ≤ i ∧ i ≤ 511
   · rw [if_pos h1] at hL
     cases hL
     have a1 : (i == 0) = false := by simpa using h0
     have a2 : ¬ i < 256 := by omega
     have a3 : ¬ 511 < i := by omega
     have a4 : IntKind.u8.wrap (i - 256) = i - 256 := wrap8_of (by omega) (by omega)
     have a5 : IntKind.u32.wrap (i - 256) = i - 256 := by rw [w32]; omega
     clear h1 h0 hi
     have hlit : (w.alloc (.cells #[.int .u8 (i - 256)] 5)).ownsRow w.heap.size 5 1 (.slice (some ⟨w.heap.size, 0, none⟩) 1 1) 1 (by8 [i - 256]) := World.ownsRow_lit _ _ _ (Nat.le_refl _) (by unfold maxLen; omega) rfl
     go_enter Tryz.func138, Tryz.ntmps138
     go_wp2
     go_ret
     exact ⟨_, rfl, hlit, alloc_bel' _ _⟩
   · rw [if_neg h1] at hL
     cases hL
section
variable {N : Nat} {gE gC d : Nat} {sb : Option Addr} {nb cb : Nat} {pre : List Int} {l : List Am} {R : List Int} {q : Bool} {x : Int}
def noA (d : Nat) (R : List Int) (x : Int) (l : List Am) : Prop := ∀ a r, l = a :: r → okA d R x a.acc = false
theorem take_ok {a : Am} {r : List Am} (w : World) (hE : EI N w gE gC d sb nb cb pre (a :: r) R q) (hU : U64 x) (h : okA d R x a.acc = true) :
   Calls Tryz.prog 241 #[.pointer (some ⟨gE, 0, none⟩), .int .u64 x] w fun e w' => e = .returned (.agg #[.int .u64 a.ad, .int .u64 a.va, .slice a.sp a.n a.cap]) ∧ Chg (C2E gE gC) w w' ∧ AmOK N w' a ∧ EI N w' gE gC d sb nb cb pre r R q :=
 (take_any w hE hU).mono fun e w' ⟨h1, h2⟩ => by
   rcases h2 with ⟨a', r', h3, h4, h5, h6, h7⟩ | ⟨h3, h4⟩
   · cases h3
     exact ⟨h5, h1, h6, h7⟩
   · rw [h3 a r rfl] at h
     cases h
theorem take_no (w : World) (hE : EI N w gE gC d sb nb cb pre l R q) (hU : U64 x) (h : noA d R x l) :
   Calls Tryz.prog 241 #[.pointer (some ⟨gE, 0, none⟩), .int .u64 x] w fun e w' => e = .panicked (refV 210) ∧ Chg (C2E gE gC) w w' :=
 (take_any w hE hU).mono fun e w' ⟨h1, h2⟩ => by
   rcases h2 with ⟨a', r', h3, h4, h5, h6, h7⟩ | ⟨h3, h4⟩
   · rw [h a' r' h3] at h4
     cases h4
   · exact ⟨h4, h1⟩
theorem field83 (x y v : Value) (w : World) : (Instr.field 83 (.agg #[x, y, v]) 1).run Tryz.prog w = .ok y w := by kernel_rfl
theorem eget_ok {a : Am} {r : List Am} (w : World) (hE : EI N w gE gC d sb nb cb pre (a :: r) R q) (hU : U64 x) (h : okA d R x a.acc = true) :
   Calls Tryz.prog 238 #[.pointer (some ⟨gE, 0, none⟩), .int .u64 x] w fun e w' => e = .returned (.int .u64 a.va) ∧ Chg (C2E gE gC) w w' ∧ EI N w' gE gC d sb nb cb pre r R q := by
 have ht := take_ok w hE hU h
 have hf := field83 (.int .u64 a.ad) (.int .u64 a.va) (.slice a.sp a.n a.cap)
 go_enter Tryz.func238, Tryz.ntmps238
 go_wp2_with (go_at_call 241; go_must (refine ht.mono ?_; rintro e w1 ⟨rfl, h1, h2, h3⟩))
 go_ret
 exact ⟨rfl, h1, h3⟩
theorem eget_no (w : World) (hE : EI N w gE gC d sb nb cb pre l R q) (hU : U64 x) (h : noA d R x l) :
   Calls Tryz.prog 238 #[.pointer (some ⟨gE, 0, none⟩), .int .u64 x] w fun e w' => e = .panicked (refV 210) ∧ Chg (C2E gE gC) w w' := by
 have ht := take_no w hE hU h
 go_enter Tryz.func238, Tryz.ntmps238
 go_wp2_with (go_at_call 241; go_must (refine ht.mono ?_; rintro e w1 ⟨rfl, h1⟩))
 exact ⟨rfl, rfl, h1⟩
theorem eset_no {y : Int} (w : World) (hE : EI N w gE gC d sb nb cb pre l R q) (hU : U64 x) (h : noA d R x l) :
   Calls Tryz.prog 240 #[.pointer (some ⟨gE, 0, none⟩), .int .u64 x, .int .u64 y] w fun e w' => e = .panicked (refV 210) ∧ Chg (C2E gE gC) w w' := by
 have ht := take_no w hE hU h
 go_enter Tryz.func240, Tryz.ntmps240
 go_wp2_with (go_at_call 241; go_must (refine ht.mono ?_; rintro e w1 ⟨rfl, h1⟩))
 exact ⟨rfl, rfl, h1⟩
end
theorem rgA_get {rg : List Int} {a : Nat} (h : a < rg.length) : (rgA rg)[a]? = some (.int .u64 (rg.getD a 0)) := by
 unfold rgA by64
 rw [List.getElem?_toArray, List.getElem?_map, List.getElem?_eq_getElem h, List.getD_eq_getElem?_getD, List.getElem?_eq_getElem h]
 rfl
def sp2 (p : Int × Int) : Value := .agg #[.int .u64 p.1, .int .u64 p.2]
def nmd (m : Mc) (o : Int) (a b c : Nat) (i : Int) : (Int × Int) × (Int × Int) :=
 if o = 17 then ((addr m b i, 1), (0, 0)) else if o = 18 then ((0, 0), (addr m b i, 1))
 else if o = 23 then (if m.get c ≤ 128 ∧ (mkL i).isSome = true then ((m.get b, (m.get c + 7) / 8), (m.get a, 4)) else ((0, 0), (0, 0)))
 else if o = 24 ∨ o = 25 then ((m.get b, 4), (0, 0)) else ((0, 0), (0, 0))
theorem size156 : (Tryz.prog.info? 156).map (·.size) = some 2 := by kernel_rfl
def spA (p : Int × Int) : Array Value := #[.int .u64 p.1, .int .u64 p.2]
theorem spA_one (p : Int × Int) : (spA p).all (·.oneCell') = true := by simp [spA, Value.oneCell']
theorem spR {w : World} {g ty : Nat} {p : Int × Int} (h : Arr w g ty (spA p)) : w.rangeAt g 0 (spA p).toList := fun j v hv => by
 rw [Nat.zero_add, h.cell, ← Array.getElem?_toList]; exact hv
theorem y156 {ops : Array Oper} {S : World → Prop} {op : Oper} {a : Act} (hw : Region.wanted op (yielded ops a.tmps) = true) (x : Operand) (ho : op.op = .load 156 x)
   (b : Nat) (hx : a.eval x = .pointer (some ⟨b, 0, none⟩)) (p : Int × Int) (hS : ∀ w, S w → Arr w b 156 (spA p)) : YieldsIf Tryz.prog ops S op (.agg (spA p)) a := by
 have := yieldsIf_load_mid (P := Tryz.prog) (S := S) hw 156 x ho b 0 hx (spA p).toList _ (fun w h => spR (hS w h)) Tryz.underlying156 rfl size156
 simpa using this
def S2 (w : World) (g k : Nat) (p q : Int × Int) (u : World) : Prop := Arr u g 156 (spA p) ∧ Arr u k 156 (spA q) ∧ Below w.heap.size w u
theorem named_17 {R : Array Value} {a b c : Nat} {i x y z t : Int} (w : World) (hR : R.size = 16) (ha : R[a]? = some (.int .u64 x)) (hb : R[b]? = some (.int .u64 y)) (hc : R[c]? = some (.int .u64 z)) (ha16 : a < 16) (hb16 : b < 16) (hc16 : c < 16) (hi : 0 ≤ i ∧ i < 4294967296) (ht : IntKind.u64.wrap (y + i) = t) :
   Calls Tryz.prog 136 #[.agg (cdA 17 a b c i), .agg R] w fun e w' => e = .returned (.tuple #[sp2 (t, 1), sp2 (0, 0)]) ∧ Below w.heap.size w w' := by
 unfold cdA sp2
 have hiw : IntKind.u64.wrap i = i := wrap64_of (by omega) (by omega)
 have A1 := (Arr.new (w.alloc (.cells #[.int .u8 17, .int .u8 a, .int .u8 b, .int .u8 c, .int .u32 i] 88)) 23 R)
 have ca := fun o => ((A1.alloc o).cell a).trans ha
 have cb := fun o => ((A1.alloc o).cell b).trans hb
 have cc := fun o => ((A1.alloc o).cell c).trans hc
 have Z4 := ((Arr.new ((w.alloc (.cells #[.int .u8 17, .int .u8 a, .int .u8 b, .int .u8 c, .int .u32 i] 88)).alloc (.cells R 23)) 156 (spA (0, 0))).alloc (.cells (spA (0, 0)) 156))
 have Z5 := (Arr.new (((w.alloc (.cells #[.int .u8 17, .int .u8 a, .int .u8 b, .int .u8 c, .int .u32 i] 88)).alloc (.cells R 23)).alloc (.cells (spA (0, 0)) 156)) 156 (spA (0, 0)))
 have B5 : Below w.heap.size w ((((w.alloc (.cells #[.int .u8 17, .int .u8 a, .int .u8 b, .int .u8 c, .int .u32 i] 88)).alloc (.cells R 23)).alloc (.cells (spA (0, 0)) 156)).alloc (.cells (spA (0, 0)) 156)) := (((alloc_bel' w _).alloc (by simp) _).alloc (by simp; omega) _).alloc (by simp; omega) _
 have ha' : (a : Int) < 16 := by omega
 have hb' : (b : Int) < 16 := by omega
 have hc' : (c : Int) < 16 := by omega
 simp only [World.size_alloc] at ca cb cc Z4 Z5
 clear ha hb hc A1
 go_enter Tryz.func136, Tryz.ntmps136
 go_upto_region 1 with fail
 go_quiet (fail)
 go_upto_region 15 with (first | fail | (refine atS 156 (.tmp 4) (.tmp 26) ?_; go_must (refine wpList_store_row (by rfl) 156 (.tmp 4) (.tmp 26) (by rfl) (w.heap.size + 1 + 1) (spA (t, 1)) (by rfl) (by rfl) 156 _ (Z4.drewN nq) size156 rfl (spA_one _) ?_)))
 refine rgn (S2 w (w.heap.size + 1 + 1) (w.heap.size + 1 + 1 + 1) (t, 1) (0, 0)) (⟨(Z4.drewN nq).setRow _, (Z5.drewN nq).setRowOther _ (by omega), Below.drew (below_setRow (Below.drewN B5 nq) (by omega) _)⟩) (fun hHeld => ?_)
 refine tl 0 rfl (y156 (by rfl) (.tmp 4) rfl (w.heap.size + 1 + 1) rfl (t, 1) (fun u hu => hu.1)) ?_
 refine tl 1 rfl (y156 (by rfl) (.tmp 5) rfl (w.heap.size + 1 + 1 + 1) rfl (0, 0) (fun u hu => hu.2.1)) ?_
 refine rd 2 rfl (fun K hK => ?_)
 refine step_want rfl (wp_store_row 156 (.tmp 4) (.tmp 61) rfl (w.heap.size + 1 + 1) (spA (t, 1)) rfl rfl 156 _ hHeld.1 size156 rfl (spA_one _) ?_)
 refine ko hK ⟨hHeld.1.setRow _, hHeld.2.1.setRowOther _ (by omega), below_setRow hHeld.2.2 (by omega) _⟩ (fun hHeld => ?_)
 clear hK K
 refine rd 3 rfl (fun K hK => ?_)
 refine step_want rfl (wp_store_row 156 (.tmp 5) (.tmp 62) rfl (w.heap.size + 1 + 1 + 1) (spA (0, 0)) rfl rfl 156 _ hHeld.2.1 size156 rfl (spA_one _) ?_)
 refine ko hK ⟨hHeld.1.setRowOther _ (by omega), hHeld.2.1.setRow _, below_setRow hHeld.2.2 (by omega) _⟩ (fun hHeld => ?_)
 clear hK K
 refine dn ?_
 generalize World.setRow _ _ _ = U at hHeld ⊢
 obtain ⟨k1, k2, k3⟩ := hHeld
 have v1 := k1.cell 0
 have v2 := k1.cell 1
 have v3 := k2.cell 0
 have v4 := k2.cell 1
 change _ = some (Value.int .u64 _) at v1
 change _ = some (Value.int .u64 _) at v2
 change _ = some (Value.int .u64 _) at v3
 change _ = some (Value.int .u64 _) at v4
 go_wp2_with fail
 refine bodyPost_ret (by simp [results, Tryz.results136, go_sem, v1, v2, v3, v4]; try rfl) rfl ⟨rfl, k3⟩
theorem named_18 {R : Array Value} {a b c : Nat} {i x y z t : Int} (w : World) (hR : R.size = 16) (ha : R[a]? = some (.int .u64 x)) (hb : R[b]? = some (.int .u64 y)) (hc : R[c]? = some (.int .u64 z)) (ha16 : a < 16) (hb16 : b < 16) (hc16 : c < 16) (hi : 0 ≤ i ∧ i < 4294967296) (ht : IntKind.u64.wrap (y + i) = t) :
   Calls Tryz.prog 136 #[.agg (cdA 18 a b c i), .agg R] w fun e w' => e = .returned (.tuple #[sp2 (0, 0), sp2 (t, 1)]) ∧ Below w.heap.size w w' := by
 unfold cdA sp2
 have hiw : IntKind.u64.wrap i = i := wrap64_of (by omega) (by omega)
 have A1 := (Arr.new (w.alloc (.cells #[.int .u8 18, .int .u8 a, .int .u8 b, .int .u8 c, .int .u32 i] 88)) 23 R)
 have ca := fun o => ((A1.alloc o).cell a).trans ha
 have cb := fun o => ((A1.alloc o).cell b).trans hb
 have cc := fun o => ((A1.alloc o).cell c).trans hc
 have Z4 := ((Arr.new ((w.alloc (.cells #[.int .u8 18, .int .u8 a, .int .u8 b, .int .u8 c, .int .u32 i] 88)).alloc (.cells R 23)) 156 (spA (0, 0))).alloc (.cells (spA (0, 0)) 156))
 have Z5 := (Arr.new (((w.alloc (.cells #[.int .u8 18, .int .u8 a, .int .u8 b, .int .u8 c, .int .u32 i] 88)).alloc (.cells R 23)).alloc (.cells (spA (0, 0)) 156)) 156 (spA (0, 0)))
 have B5 : Below w.heap.size w ((((w.alloc (.cells #[.int .u8 18, .int .u8 a, .int .u8 b, .int .u8 c, .int .u32 i] 88)).alloc (.cells R 23)).alloc (.cells (spA (0, 0)) 156)).alloc (.cells (spA (0, 0)) 156)) := (((alloc_bel' w _).alloc (by simp) _).alloc (by simp; omega) _).alloc (by simp; omega) _
 have ha' : (a : Int) < 16 := by omega
 have hb' : (b : Int) < 16 := by omega
 have hc' : (c : Int) < 16 := by omega
 simp only [World.size_alloc] at ca cb cc Z4 Z5
 clear ha hb hc A1
 go_enter Tryz.func136, Tryz.ntmps136
 go_upto_region 1 with fail
 go_quiet (fail)
 go_upto_region 15 with (first | fail | (refine atS 156 (.tmp 5) (.tmp 34) ?_; go_must (refine wpList_store_row (by rfl) 156 (.tmp 5) (.tmp 34) (by rfl) (w.heap.size + 1 + 1 + 1) (spA (t, 1)) (by rfl) (by rfl) 156 _ (Z5.drewN nq) size156 rfl (spA_one _) ?_)))
 refine rgn (S2 w (w.heap.size + 1 + 1) (w.heap.size + 1 + 1 + 1) (0, 0) (t, 1)) (⟨(Z4.drewN nq).setRowOther _ (by omega), (Z5.drewN nq).setRow _, Below.drew (below_setRow (Below.drewN B5 nq) (by omega) _)⟩) (fun hHeld => ?_)
 refine tl 0 rfl (y156 (by rfl) (.tmp 4) rfl (w.heap.size + 1 + 1) rfl (0, 0) (fun u hu => hu.1)) ?_
 refine tl 1 rfl (y156 (by rfl) (.tmp 5) rfl (w.heap.size + 1 + 1 + 1) rfl (t, 1) (fun u hu => hu.2.1)) ?_
 refine rd 2 rfl (fun K hK => ?_)
 refine step_want rfl (wp_store_row 156 (.tmp 4) (.tmp 61) rfl (w.heap.size + 1 + 1) (spA (0, 0)) rfl rfl 156 _ hHeld.1 size156 rfl (spA_one _) ?_)
 refine ko hK ⟨hHeld.1.setRow _, hHeld.2.1.setRowOther _ (by omega), below_setRow hHeld.2.2 (by omega) _⟩ (fun hHeld => ?_)
 clear hK K
 refine rd 3 rfl (fun K hK => ?_)
 refine step_want rfl (wp_store_row 156 (.tmp 5) (.tmp 62) rfl (w.heap.size + 1 + 1 + 1) (spA (t, 1)) rfl rfl 156 _ hHeld.2.1 size156 rfl (spA_one _) ?_)
 refine ko hK ⟨hHeld.1.setRowOther _ (by omega), hHeld.2.1.setRow _, below_setRow hHeld.2.2 (by omega) _⟩ (fun hHeld => ?_)
 clear hK K
 refine dn ?_
 generalize World.setRow _ _ _ = U at hHeld ⊢
 obtain ⟨k1, k2, k3⟩ := hHeld
 have v1 := k1.cell 0
 have v2 := k1.cell 1
 have v3 := k2.cell 0
 have v4 := k2.cell 1
 change _ = some (Value.int .u64 _) at v1
 change _ = some (Value.int .u64 _) at v2
 change _ = some (Value.int .u64 _) at v3
 change _ = some (Value.int .u64 _) at v4
 go_wp2_with fail
 refine bodyPost_ret (by simp [results, Tryz.results136, go_sem, v1, v2, v3, v4]; try rfl) rfl ⟨rfl, k3⟩
theorem named_23y {R : Array Value} {a b c : Nat} {i x y z t : Int} (w : World) (hR : R.size = 16) (ha : R[a]? = some (.int .u64 x)) (hb : R[b]? = some (.int .u64 y)) (hc : R[c]? = some (.int .u64 z)) (ha16 : a < 16) (hb16 : b < 16) (hc16 : c < 16) (hi : 0 ≤ i ∧ i < 4294967296) (ht : IntKind.u64.wrap (y + i) = t) (hz : 0 ≤ z) (h1 : z ≤ 128) (h2 : (mkL i).isSome = true) :
   Calls Tryz.prog 136 #[.agg (cdA 23 a b c i), .agg R] w fun e w' => e = .returned (.tuple #[sp2 (y, (z + 7) / 8), sp2 (x, 4)]) ∧ Below w.heap.size w w' := by
 unfold cdA sp2
 have hk := Hid.mk' h2
 have e1 : IntKind.u64.wrap (z + 8) = z + 8 := wrap64_of (by omega) (by omega)
 have e2 : IntKind.u64.wrap (z + 8 - 1) = z + 7 := by rw [wrap64_of (by omega) (by omega)]; omega
 have e3 : ((z + 7).tdiv 8) = (z + 7) / 8 := by rw [Int.tdiv_eq_ediv_of_nonneg (by omega)]
 clear h2
 have hiw : IntKind.u64.wrap i = i := wrap64_of (by omega) (by omega)
 have A1 := (Arr.new (w.alloc (.cells #[.int .u8 23, .int .u8 a, .int .u8 b, .int .u8 c, .int .u32 i] 88)) 23 R)
 have ca := fun o => ((A1.alloc o).cell a).trans ha
 have cb := fun o => ((A1.alloc o).cell b).trans hb
 have cc := fun o => ((A1.alloc o).cell c).trans hc
 have Z4 := ((Arr.new ((w.alloc (.cells #[.int .u8 23, .int .u8 a, .int .u8 b, .int .u8 c, .int .u32 i] 88)).alloc (.cells R 23)) 156 (spA (0, 0))).alloc (.cells (spA (0, 0)) 156))
 have Z5 := (Arr.new (((w.alloc (.cells #[.int .u8 23, .int .u8 a, .int .u8 b, .int .u8 c, .int .u32 i] 88)).alloc (.cells R 23)).alloc (.cells (spA (0, 0)) 156)) 156 (spA (0, 0)))
 have B5 : Below w.heap.size w ((((w.alloc (.cells #[.int .u8 23, .int .u8 a, .int .u8 b, .int .u8 c, .int .u32 i] 88)).alloc (.cells R 23)).alloc (.cells (spA (0, 0)) 156)).alloc (.cells (spA (0, 0)) 156)) := (((alloc_bel' w _).alloc (by simp) _).alloc (by simp; omega) _).alloc (by simp; omega) _
 have ha' : (a : Int) < 16 := by omega
 have hb' : (b : Int) < 16 := by omega
 have hc' : (c : Int) < 16 := by omega
 simp only [World.size_alloc] at ca cb cc Z4 Z5
 clear ha hb hc A1
 go_enter Tryz.func136, Tryz.ntmps136
 go_upto_region 1 with fail
 go_quiet (fail)
 go_upto_region 15 with (first | fail | (go_at_call 169; go_must (refine (mayMark_any _ hi).mono ?_; rintro e w1 ⟨rfl, h⟩; replace h := h.symm; subst h; rw [hk.out])) | (refine atS 156 (.tmp 4) (.tmp 53) ?_; go_must (refine wpList_store_row (by rfl) 156 (.tmp 4) (.tmp 53) (by rfl) (w.heap.size + 1 + 1) (spA (y, (z + 7) / 8)) (by rfl) (by rfl) 156 _ (Z4.drewN nq) size156 rfl (spA_one _) ?_)) | (refine atS 156 (.tmp 5) (.tmp 55) ?_; go_must (refine wpList_store_row (by rfl) 156 (.tmp 5) (.tmp 55) (by rfl) (w.heap.size + 1 + 1 + 1) (spA (x, 4)) (by rfl) (by rfl) 156 _ ((Z5.drewN nq).setRowOther _ (by omega)) size156 rfl (spA_one _) ?_)))
 refine rgn (S2 w (w.heap.size + 1 + 1) (w.heap.size + 1 + 1 + 1) (y, (z + 7) / 8) (x, 4)) (⟨((Z4.drewN nq).setRow _).setRowOther _ (by omega), ((Z5.drewN nq).setRowOther _ (by omega)).setRow _, Below.drew (below_setRow (below_setRow (Below.drewN B5 nq) (by omega) _) (by omega) _)⟩) (fun hHeld => ?_)
 refine tl 0 rfl (y156 (by rfl) (.tmp 4) rfl (w.heap.size + 1 + 1) rfl (y, (z + 7) / 8) (fun u hu => hu.1)) ?_
 refine tl 1 rfl (y156 (by rfl) (.tmp 5) rfl (w.heap.size + 1 + 1 + 1) rfl (x, 4) (fun u hu => hu.2.1)) ?_
 refine rd 2 rfl (fun K hK => ?_)
 refine step_want rfl (wp_store_row 156 (.tmp 4) (.tmp 61) rfl (w.heap.size + 1 + 1) (spA (y, (z + 7) / 8)) rfl rfl 156 _ hHeld.1 size156 rfl (spA_one _) ?_)
 refine ko hK ⟨hHeld.1.setRow _, hHeld.2.1.setRowOther _ (by omega), below_setRow hHeld.2.2 (by omega) _⟩ (fun hHeld => ?_)
 clear hK K
 refine rd 3 rfl (fun K hK => ?_)
 refine step_want rfl (wp_store_row 156 (.tmp 5) (.tmp 62) rfl (w.heap.size + 1 + 1 + 1) (spA (x, 4)) rfl rfl 156 _ hHeld.2.1 size156 rfl (spA_one _) ?_)
 refine ko hK ⟨hHeld.1.setRowOther _ (by omega), hHeld.2.1.setRow _, below_setRow hHeld.2.2 (by omega) _⟩ (fun hHeld => ?_)
 clear hK K
 refine dn ?_
 generalize World.setRow _ _ _ = U at hHeld ⊢
 obtain ⟨k1, k2, k3⟩ := hHeld
 have v1 := k1.cell 0
 have v2 := k1.cell 1
 have v3 := k2.cell 0
 have v4 := k2.cell 1
 change _ = some (Value.int .u64 _) at v1
 change _ = some (Value.int .u64 _) at v2
 change _ = some (Value.int .u64 _) at v3
 change _ = some (Value.int .u64 _) at v4
 go_wp2_with fail
 refine bodyPost_ret (by simp [results, Tryz.results136, go_sem, v1, v2, v3, v4]; try rfl) rfl ⟨rfl, k3⟩
theorem named_23n {R : Array Value} {a b c : Nat} {i x y z t : Int} (w : World) (hR : R.size = 16) (ha : R[a]? = some (.int .u64 x)) (hb : R[b]? = some (.int .u64 y)) (hc : R[c]? = some (.int .u64 z)) (ha16 : a < 16) (hb16 : b < 16) (hc16 : c < 16) (hi : 0 ≤ i ∧ i < 4294967296) (ht : IntKind.u64.wrap (y + i) = t) (h1 : z ≤ 128) (h2 : (mkL i).isSome = false) :
   Calls Tryz.prog 136 #[.agg (cdA 23 a b c i), .agg R] w fun e w' => e = .returned (.tuple #[sp2 (0, 0), sp2 (0, 0)]) ∧ Below w.heap.size w w' := by
 unfold cdA sp2
 have hk := Hid.mk' h2
 clear h2
 have hiw : IntKind.u64.wrap i = i := wrap64_of (by omega) (by omega)
 have A1 := (Arr.new (w.alloc (.cells #[.int .u8 23, .int .u8 a, .int .u8 b, .int .u8 c, .int .u32 i] 88)) 23 R)
 have ca := fun o => ((A1.alloc o).cell a).trans ha
 have cb := fun o => ((A1.alloc o).cell b).trans hb
 have cc := fun o => ((A1.alloc o).cell c).trans hc
 have Z4 := ((Arr.new ((w.alloc (.cells #[.int .u8 23, .int .u8 a, .int .u8 b, .int .u8 c, .int .u32 i] 88)).alloc (.cells R 23)) 156 (spA (0, 0))).alloc (.cells (spA (0, 0)) 156))
 have Z5 := (Arr.new (((w.alloc (.cells #[.int .u8 23, .int .u8 a, .int .u8 b, .int .u8 c, .int .u32 i] 88)).alloc (.cells R 23)).alloc (.cells (spA (0, 0)) 156)) 156 (spA (0, 0)))
 have B5 : Below w.heap.size w ((((w.alloc (.cells #[.int .u8 23, .int .u8 a, .int .u8 b, .int .u8 c, .int .u32 i] 88)).alloc (.cells R 23)).alloc (.cells (spA (0, 0)) 156)).alloc (.cells (spA (0, 0)) 156)) := (((alloc_bel' w _).alloc (by simp) _).alloc (by simp; omega) _).alloc (by simp; omega) _
 have ha' : (a : Int) < 16 := by omega
 have hb' : (b : Int) < 16 := by omega
 have hc' : (c : Int) < 16 := by omega
 simp only [World.size_alloc] at ca cb cc Z4 Z5
 clear ha hb hc A1
 go_enter Tryz.func136, Tryz.ntmps136
 go_upto_region 1 with fail
 go_quiet (fail)
 go_upto_region 15 with (first | fail | (go_at_call 169; go_must (refine (mayMark_any _ hi).mono ?_; rintro e w1 ⟨rfl, h⟩; replace h := h.symm; subst h; rw [hk.out])))
 refine rgn (S2 w (w.heap.size + 1 + 1) (w.heap.size + 1 + 1 + 1) (0, 0) (0, 0)) (⟨(Z4.drewN nq).drew, (Z5.drewN nq).drew, Below.drew (Below.drewN B5 nq)⟩) (fun hHeld => ?_)
 refine tl 0 rfl (y156 (by rfl) (.tmp 4) rfl (w.heap.size + 1 + 1) rfl (0, 0) (fun u hu => hu.1)) ?_
 refine tl 1 rfl (y156 (by rfl) (.tmp 5) rfl (w.heap.size + 1 + 1 + 1) rfl (0, 0) (fun u hu => hu.2.1)) ?_
 refine rd 2 rfl (fun K hK => ?_)
 refine step_want rfl (wp_store_row 156 (.tmp 4) (.tmp 61) rfl (w.heap.size + 1 + 1) (spA (0, 0)) rfl rfl 156 _ hHeld.1 size156 rfl (spA_one _) ?_)
 refine ko hK ⟨hHeld.1.setRow _, hHeld.2.1.setRowOther _ (by omega), below_setRow hHeld.2.2 (by omega) _⟩ (fun hHeld => ?_)
 clear hK K
 refine rd 3 rfl (fun K hK => ?_)
 refine step_want rfl (wp_store_row 156 (.tmp 5) (.tmp 62) rfl (w.heap.size + 1 + 1 + 1) (spA (0, 0)) rfl rfl 156 _ hHeld.2.1 size156 rfl (spA_one _) ?_)
 refine ko hK ⟨hHeld.1.setRowOther _ (by omega), hHeld.2.1.setRow _, below_setRow hHeld.2.2 (by omega) _⟩ (fun hHeld => ?_)
 clear hK K
 refine dn ?_
 generalize World.setRow _ _ _ = U at hHeld ⊢
 obtain ⟨k1, k2, k3⟩ := hHeld
 have v1 := k1.cell 0
 have v2 := k1.cell 1
 have v3 := k2.cell 0
 have v4 := k2.cell 1
 change _ = some (Value.int .u64 _) at v1
 change _ = some (Value.int .u64 _) at v2
 change _ = some (Value.int .u64 _) at v3
 change _ = some (Value.int .u64 _) at v4
 go_wp2_with fail
 refine bodyPost_ret (by simp [results, Tryz.results136, go_sem, v1, v2, v3, v4]; try rfl) rfl ⟨rfl, k3⟩
theorem named_23l {R : Array Value} {a b c : Nat} {i x y z t : Int} (w : World) (hR : R.size = 16) (ha : R[a]? = some (.int .u64 x)) (hb : R[b]? = some (.int .u64 y)) (hc : R[c]? = some (.int .u64 z)) (ha16 : a < 16) (hb16 : b < 16) (hc16 : c < 16) (hi : 0 ≤ i ∧ i < 4294967296) (ht : IntKind.u64.wrap (y + i) = t) (h1 : ¬ z ≤ 128) :
   Calls Tryz.prog 136 #[.agg (cdA 23 a b c i), .agg R] w fun e w' => e = .returned (.tuple #[sp2 (0, 0), sp2 (0, 0)]) ∧ Below w.heap.size w w' := by
 unfold cdA sp2
 have hiw : IntKind.u64.wrap i = i := wrap64_of (by omega) (by omega)
 have A1 := (Arr.new (w.alloc (.cells #[.int .u8 23, .int .u8 a, .int .u8 b, .int .u8 c, .int .u32 i] 88)) 23 R)
 have ca := fun o => ((A1.alloc o).cell a).trans ha
 have cb := fun o => ((A1.alloc o).cell b).trans hb
 have cc := fun o => ((A1.alloc o).cell c).trans hc
 have Z4 := ((Arr.new ((w.alloc (.cells #[.int .u8 23, .int .u8 a, .int .u8 b, .int .u8 c, .int .u32 i] 88)).alloc (.cells R 23)) 156 (spA (0, 0))).alloc (.cells (spA (0, 0)) 156))
 have Z5 := (Arr.new (((w.alloc (.cells #[.int .u8 23, .int .u8 a, .int .u8 b, .int .u8 c, .int .u32 i] 88)).alloc (.cells R 23)).alloc (.cells (spA (0, 0)) 156)) 156 (spA (0, 0)))
 have B5 : Below w.heap.size w ((((w.alloc (.cells #[.int .u8 23, .int .u8 a, .int .u8 b, .int .u8 c, .int .u32 i] 88)).alloc (.cells R 23)).alloc (.cells (spA (0, 0)) 156)).alloc (.cells (spA (0, 0)) 156)) := (((alloc_bel' w _).alloc (by simp) _).alloc (by simp; omega) _).alloc (by simp; omega) _
 have ha' : (a : Int) < 16 := by omega
 have hb' : (b : Int) < 16 := by omega
 have hc' : (c : Int) < 16 := by omega
 simp only [World.size_alloc] at ca cb cc Z4 Z5
 clear ha hb hc A1
 go_enter Tryz.func136, Tryz.ntmps136
 go_upto_region 1 with fail
 go_quiet (fail)
 go_upto_region 15 with (first | fail)
 refine rgn (S2 w (w.heap.size + 1 + 1) (w.heap.size + 1 + 1 + 1) (0, 0) (0, 0)) (⟨(Z4.drewN nq).drew, (Z5.drewN nq).drew, Below.drew (Below.drewN B5 nq)⟩) (fun hHeld => ?_)
 refine tl 0 rfl (y156 (by rfl) (.tmp 4) rfl (w.heap.size + 1 + 1) rfl (0, 0) (fun u hu => hu.1)) ?_
 refine tl 1 rfl (y156 (by rfl) (.tmp 5) rfl (w.heap.size + 1 + 1 + 1) rfl (0, 0) (fun u hu => hu.2.1)) ?_
 refine rd 2 rfl (fun K hK => ?_)
 refine step_want rfl (wp_store_row 156 (.tmp 4) (.tmp 61) rfl (w.heap.size + 1 + 1) (spA (0, 0)) rfl rfl 156 _ hHeld.1 size156 rfl (spA_one _) ?_)
 refine ko hK ⟨hHeld.1.setRow _, hHeld.2.1.setRowOther _ (by omega), below_setRow hHeld.2.2 (by omega) _⟩ (fun hHeld => ?_)
 clear hK K
 refine rd 3 rfl (fun K hK => ?_)
 refine step_want rfl (wp_store_row 156 (.tmp 5) (.tmp 62) rfl (w.heap.size + 1 + 1 + 1) (spA (0, 0)) rfl rfl 156 _ hHeld.2.1 size156 rfl (spA_one _) ?_)
 refine ko hK ⟨hHeld.1.setRowOther _ (by omega), hHeld.2.1.setRow _, below_setRow hHeld.2.2 (by omega) _⟩ (fun hHeld => ?_)
 clear hK K
 refine dn ?_
 generalize World.setRow _ _ _ = U at hHeld ⊢
 obtain ⟨k1, k2, k3⟩ := hHeld
 have v1 := k1.cell 0
 have v2 := k1.cell 1
 have v3 := k2.cell 0
 have v4 := k2.cell 1
 change _ = some (Value.int .u64 _) at v1
 change _ = some (Value.int .u64 _) at v2
 change _ = some (Value.int .u64 _) at v3
 change _ = some (Value.int .u64 _) at v4
 go_wp2_with fail
 refine bodyPost_ret (by simp [results, Tryz.results136, go_sem, v1, v2, v3, v4]; try rfl) rfl ⟨rfl, k3⟩
theorem named_24 {R : Array Value} {a b c : Nat} {i x y z t : Int} (w : World) (hR : R.size = 16) (ha : R[a]? = some (.int .u64 x)) (hb : R[b]? = some (.int .u64 y)) (hc : R[c]? = some (.int .u64 z)) (ha16 : a < 16) (hb16 : b < 16) (hc16 : c < 16) (hi : 0 ≤ i ∧ i < 4294967296) (ht : IntKind.u64.wrap (y + i) = t) :
   Calls Tryz.prog 136 #[.agg (cdA 24 a b c i), .agg R] w fun e w' => e = .returned (.tuple #[sp2 (y, 4), sp2 (0, 0)]) ∧ Below w.heap.size w w' := by
 unfold cdA sp2
 have hiw : IntKind.u64.wrap i = i := wrap64_of (by omega) (by omega)
 have A1 := (Arr.new (w.alloc (.cells #[.int .u8 24, .int .u8 a, .int .u8 b, .int .u8 c, .int .u32 i] 88)) 23 R)
 have ca := fun o => ((A1.alloc o).cell a).trans ha
 have cb := fun o => ((A1.alloc o).cell b).trans hb
 have cc := fun o => ((A1.alloc o).cell c).trans hc
 have Z4 := ((Arr.new ((w.alloc (.cells #[.int .u8 24, .int .u8 a, .int .u8 b, .int .u8 c, .int .u32 i] 88)).alloc (.cells R 23)) 156 (spA (0, 0))).alloc (.cells (spA (0, 0)) 156))
 have Z5 := (Arr.new (((w.alloc (.cells #[.int .u8 24, .int .u8 a, .int .u8 b, .int .u8 c, .int .u32 i] 88)).alloc (.cells R 23)).alloc (.cells (spA (0, 0)) 156)) 156 (spA (0, 0)))
 have B5 : Below w.heap.size w ((((w.alloc (.cells #[.int .u8 24, .int .u8 a, .int .u8 b, .int .u8 c, .int .u32 i] 88)).alloc (.cells R 23)).alloc (.cells (spA (0, 0)) 156)).alloc (.cells (spA (0, 0)) 156)) := (((alloc_bel' w _).alloc (by simp) _).alloc (by simp; omega) _).alloc (by simp; omega) _
 have ha' : (a : Int) < 16 := by omega
 have hb' : (b : Int) < 16 := by omega
 have hc' : (c : Int) < 16 := by omega
 simp only [World.size_alloc] at ca cb cc Z4 Z5
 clear ha hb hc A1
 go_enter Tryz.func136, Tryz.ntmps136
 go_upto_region 1 with fail
 go_quiet (fail)
 go_upto_region 15 with (first | fail | (refine atS 156 (.tmp 4) (.tmp 60) ?_; go_must (refine wpList_store_row (by rfl) 156 (.tmp 4) (.tmp 60) (by rfl) (w.heap.size + 1 + 1) (spA (y, 4)) (by rfl) (by rfl) 156 _ (Z4.drewN nq) size156 rfl (spA_one _) ?_)))
 refine rgn (S2 w (w.heap.size + 1 + 1) (w.heap.size + 1 + 1 + 1) (y, 4) (0, 0)) (⟨(Z4.drewN nq).setRow _, (Z5.drewN nq).setRowOther _ (by omega), Below.drew (below_setRow (Below.drewN B5 nq) (by omega) _)⟩) (fun hHeld => ?_)
 refine tl 0 rfl (y156 (by rfl) (.tmp 4) rfl (w.heap.size + 1 + 1) rfl (y, 4) (fun u hu => hu.1)) ?_
 refine tl 1 rfl (y156 (by rfl) (.tmp 5) rfl (w.heap.size + 1 + 1 + 1) rfl (0, 0) (fun u hu => hu.2.1)) ?_
 refine rd 2 rfl (fun K hK => ?_)
 refine step_want rfl (wp_store_row 156 (.tmp 4) (.tmp 61) rfl (w.heap.size + 1 + 1) (spA (y, 4)) rfl rfl 156 _ hHeld.1 size156 rfl (spA_one _) ?_)
 refine ko hK ⟨hHeld.1.setRow _, hHeld.2.1.setRowOther _ (by omega), below_setRow hHeld.2.2 (by omega) _⟩ (fun hHeld => ?_)
 clear hK K
 refine rd 3 rfl (fun K hK => ?_)
 refine step_want rfl (wp_store_row 156 (.tmp 5) (.tmp 62) rfl (w.heap.size + 1 + 1 + 1) (spA (0, 0)) rfl rfl 156 _ hHeld.2.1 size156 rfl (spA_one _) ?_)
 refine ko hK ⟨hHeld.1.setRowOther _ (by omega), hHeld.2.1.setRow _, below_setRow hHeld.2.2 (by omega) _⟩ (fun hHeld => ?_)
 clear hK K
 refine dn ?_
 generalize World.setRow _ _ _ = U at hHeld ⊢
 obtain ⟨k1, k2, k3⟩ := hHeld
 have v1 := k1.cell 0
 have v2 := k1.cell 1
 have v3 := k2.cell 0
 have v4 := k2.cell 1
 change _ = some (Value.int .u64 _) at v1
 change _ = some (Value.int .u64 _) at v2
 change _ = some (Value.int .u64 _) at v3
 change _ = some (Value.int .u64 _) at v4
 go_wp2_with fail
 refine bodyPost_ret (by simp [results, Tryz.results136, go_sem, v1, v2, v3, v4]; try rfl) rfl ⟨rfl, k3⟩
theorem named_25 {R : Array Value} {a b c : Nat} {i x y z t : Int} (w : World) (hR : R.size = 16) (ha : R[a]? = some (.int .u64 x)) (hb : R[b]? = some (.int .u64 y)) (hc : R[c]? = some (.int .u64 z)) (ha16 : a < 16) (hb16 : b < 16) (hc16 : c < 16) (hi : 0 ≤ i ∧ i < 4294967296) (ht : IntKind.u64.wrap (y + i) = t) :
   Calls Tryz.prog 136 #[.agg (cdA 25 a b c i), .agg R] w fun e w' => e = .returned (.tuple #[sp2 (y, 4), sp2 (0, 0)]) ∧ Below w.heap.size w w' := by
 unfold cdA sp2
 have hiw : IntKind.u64.wrap i = i := wrap64_of (by omega) (by omega)
 have A1 := (Arr.new (w.alloc (.cells #[.int .u8 25, .int .u8 a, .int .u8 b, .int .u8 c, .int .u32 i] 88)) 23 R)
 have ca := fun o => ((A1.alloc o).cell a).trans ha
 have cb := fun o => ((A1.alloc o).cell b).trans hb
 have cc := fun o => ((A1.alloc o).cell c).trans hc
 have Z4 := ((Arr.new ((w.alloc (.cells #[.int .u8 25, .int .u8 a, .int .u8 b, .int .u8 c, .int .u32 i] 88)).alloc (.cells R 23)) 156 (spA (0, 0))).alloc (.cells (spA (0, 0)) 156))
 have Z5 := (Arr.new (((w.alloc (.cells #[.int .u8 25, .int .u8 a, .int .u8 b, .int .u8 c, .int .u32 i] 88)).alloc (.cells R 23)).alloc (.cells (spA (0, 0)) 156)) 156 (spA (0, 0)))
 have B5 : Below w.heap.size w ((((w.alloc (.cells #[.int .u8 25, .int .u8 a, .int .u8 b, .int .u8 c, .int .u32 i] 88)).alloc (.cells R 23)).alloc (.cells (spA (0, 0)) 156)).alloc (.cells (spA (0, 0)) 156)) := (((alloc_bel' w _).alloc (by simp) _).alloc (by simp; omega) _).alloc (by simp; omega) _
 have ha' : (a : Int) < 16 := by omega
 have hb' : (b : Int) < 16 := by omega
 have hc' : (c : Int) < 16 := by omega
 simp only [World.size_alloc] at ca cb cc Z4 Z5
 clear ha hb hc A1
 go_enter Tryz.func136, Tryz.ntmps136
 go_upto_region 1 with fail
 go_quiet (fail)
 go_upto_region 15 with (first | fail | (refine atS 156 (.tmp 4) (.tmp 60) ?_; go_must (refine wpList_store_row (by rfl) 156 (.tmp 4) (.tmp 60) (by rfl) (w.heap.size + 1 + 1) (spA (y, 4)) (by rfl) (by rfl) 156 _ (Z4.drewN nq) size156 rfl (spA_one _) ?_)))
 refine rgn (S2 w (w.heap.size + 1 + 1) (w.heap.size + 1 + 1 + 1) (y, 4) (0, 0)) (⟨(Z4.drewN nq).setRow _, (Z5.drewN nq).setRowOther _ (by omega), Below.drew (below_setRow (Below.drewN B5 nq) (by omega) _)⟩) (fun hHeld => ?_)
 refine tl 0 rfl (y156 (by rfl) (.tmp 4) rfl (w.heap.size + 1 + 1) rfl (y, 4) (fun u hu => hu.1)) ?_
 refine tl 1 rfl (y156 (by rfl) (.tmp 5) rfl (w.heap.size + 1 + 1 + 1) rfl (0, 0) (fun u hu => hu.2.1)) ?_
 refine rd 2 rfl (fun K hK => ?_)
 refine step_want rfl (wp_store_row 156 (.tmp 4) (.tmp 61) rfl (w.heap.size + 1 + 1) (spA (y, 4)) rfl rfl 156 _ hHeld.1 size156 rfl (spA_one _) ?_)
 refine ko hK ⟨hHeld.1.setRow _, hHeld.2.1.setRowOther _ (by omega), below_setRow hHeld.2.2 (by omega) _⟩ (fun hHeld => ?_)
 clear hK K
 refine rd 3 rfl (fun K hK => ?_)
 refine step_want rfl (wp_store_row 156 (.tmp 5) (.tmp 62) rfl (w.heap.size + 1 + 1 + 1) (spA (0, 0)) rfl rfl 156 _ hHeld.2.1 size156 rfl (spA_one _) ?_)
 refine ko hK ⟨hHeld.1.setRowOther _ (by omega), hHeld.2.1.setRow _, below_setRow hHeld.2.2 (by omega) _⟩ (fun hHeld => ?_)
 clear hK K
 refine dn ?_
 generalize World.setRow _ _ _ = U at hHeld ⊢
 obtain ⟨k1, k2, k3⟩ := hHeld
 have v1 := k1.cell 0
 have v2 := k1.cell 1
 have v3 := k2.cell 0
 have v4 := k2.cell 1
 change _ = some (Value.int .u64 _) at v1
 change _ = some (Value.int .u64 _) at v2
 change _ = some (Value.int .u64 _) at v3
 change _ = some (Value.int .u64 _) at v4
 go_wp2_with fail
 refine bodyPost_ret (by simp [results, Tryz.results136, go_sem, v1, v2, v3, v4]; try rfl) rfl ⟨rfl, k3⟩
theorem named_o {R : Array Value} {a b c : Nat} {i x y z t : Int} (w : World) (hR : R.size = 16) (ha : R[a]? = some (.int .u64 x)) (hb : R[b]? = some (.int .u64 y)) (hc : R[c]? = some (.int .u64 z)) (ha16 : a < 16) (hb16 : b < 16) (hc16 : c < 16) (hi : 0 ≤ i ∧ i < 4294967296) (ht : IntKind.u64.wrap (y + i) = t) {o : Int} (h17 : o ≠ 17) (h18 : o ≠ 18) (h23 : o ≠ 23) (h24 : o ≠ 24) (h25 : o ≠ 25) :
   Calls Tryz.prog 136 #[.agg (cdA o a b c i), .agg R] w fun e w' => e = .returned (.tuple #[sp2 (0, 0), sp2 (0, 0)]) ∧ Below w.heap.size w w' := by
 unfold cdA sp2
 have e17 : (o == 17) = false := by simpa using h17
 have e18 : (o == 18) = false := by simpa using h18
 have e23 : (o == 23) = false := by simpa using h23
 have e24 : (o == 24) = false := by simpa using h24
 have e25 : (o == 25) = false := by simpa using h25
 clear h17 h18 h23 h24 h25
 have hiw : IntKind.u64.wrap i = i := wrap64_of (by omega) (by omega)
 have A1 := (Arr.new (w.alloc (.cells #[.int .u8 o, .int .u8 a, .int .u8 b, .int .u8 c, .int .u32 i] 88)) 23 R)
 have ca := fun o => ((A1.alloc o).cell a).trans ha
 have cb := fun o => ((A1.alloc o).cell b).trans hb
 have cc := fun o => ((A1.alloc o).cell c).trans hc
 have Z4 := ((Arr.new ((w.alloc (.cells #[.int .u8 o, .int .u8 a, .int .u8 b, .int .u8 c, .int .u32 i] 88)).alloc (.cells R 23)) 156 (spA (0, 0))).alloc (.cells (spA (0, 0)) 156))
 have Z5 := (Arr.new (((w.alloc (.cells #[.int .u8 o, .int .u8 a, .int .u8 b, .int .u8 c, .int .u32 i] 88)).alloc (.cells R 23)).alloc (.cells (spA (0, 0)) 156)) 156 (spA (0, 0)))
 have B5 : Below w.heap.size w ((((w.alloc (.cells #[.int .u8 o, .int .u8 a, .int .u8 b, .int .u8 c, .int .u32 i] 88)).alloc (.cells R 23)).alloc (.cells (spA (0, 0)) 156)).alloc (.cells (spA (0, 0)) 156)) := (((alloc_bel' w _).alloc (by simp) _).alloc (by simp; omega) _).alloc (by simp; omega) _
 have ha' : (a : Int) < 16 := by omega
 have hb' : (b : Int) < 16 := by omega
 have hc' : (c : Int) < 16 := by omega
 simp only [World.size_alloc] at ca cb cc Z4 Z5
 clear ha hb hc A1
 go_enter Tryz.func136, Tryz.ntmps136
 go_upto_region 1 with fail
 go_quiet (fail)
 go_upto_region 15 with (first | fail)
 refine rgn (S2 w (w.heap.size + 1 + 1) (w.heap.size + 1 + 1 + 1) (0, 0) (0, 0)) (⟨(Z4.drewN nq).drew, (Z5.drewN nq).drew, Below.drew (Below.drewN B5 nq)⟩) (fun hHeld => ?_)
 refine tl 0 rfl (y156 (by rfl) (.tmp 4) rfl (w.heap.size + 1 + 1) rfl (0, 0) (fun u hu => hu.1)) ?_
 refine tl 1 rfl (y156 (by rfl) (.tmp 5) rfl (w.heap.size + 1 + 1 + 1) rfl (0, 0) (fun u hu => hu.2.1)) ?_
 refine rd 2 rfl (fun K hK => ?_)
 refine step_want rfl (wp_store_row 156 (.tmp 4) (.tmp 61) rfl (w.heap.size + 1 + 1) (spA (0, 0)) rfl rfl 156 _ hHeld.1 size156 rfl (spA_one _) ?_)
 refine ko hK ⟨hHeld.1.setRow _, hHeld.2.1.setRowOther _ (by omega), below_setRow hHeld.2.2 (by omega) _⟩ (fun hHeld => ?_)
 clear hK K
 refine rd 3 rfl (fun K hK => ?_)
 refine step_want rfl (wp_store_row 156 (.tmp 5) (.tmp 62) rfl (w.heap.size + 1 + 1 + 1) (spA (0, 0)) rfl rfl 156 _ hHeld.2.1 size156 rfl (spA_one _) ?_)
 refine ko hK ⟨hHeld.1.setRowOther _ (by omega), hHeld.2.1.setRow _, below_setRow hHeld.2.2 (by omega) _⟩ (fun hHeld => ?_)
 clear hK K
 refine dn ?_
 generalize World.setRow _ _ _ = U at hHeld ⊢
 obtain ⟨k1, k2, k3⟩ := hHeld
 have v1 := k1.cell 0
 have v2 := k1.cell 1
 have v3 := k2.cell 0
 have v4 := k2.cell 1
 change _ = some (Value.int .u64 _) at v1
 change _ = some (Value.int .u64 _) at v2
 change _ = some (Value.int .u64 _) at v3
 change _ = some (Value.int .u64 _) at v4
 go_wp2_with fail
 refine bodyPost_ret (by simp [results, Tryz.results136, go_sem, v1, v2, v3, v4]; try rfl) rfl ⟨rfl, k3⟩
theorem named_any {m : Mc} {o : Int} {a b c : Nat} {i : Int} (w : World) (h16 : m.rg.length = 16) (hU : ∀ k, U64 (m.rg.getD k 0)) (ha : a < 16) (hb : b < 16) (hc : c < 16) (hi : 0 ≤ i ∧ i < 4294967296) :
   Calls Tryz.prog 136 #[.agg (cdA o a b c i), .agg (rgA m.rg)] w fun e w' => e = .returned (.tuple #[sp2 (nmd m o a b c i).1, sp2 (nmd m o a b c i).2]) ∧ Below w.heap.size w w' := by
 have hR := rgA_size h16
 have ga := rgA_get (rg := m.rg) (a := a) (by omega)
 have gb := rgA_get (rg := m.rg) (a := b) (by omega)
 have gc := rgA_get (rg := m.rg) (a := c) (by omega)
 by_cases h17 : o = 17
 · subst h17; exact named_17 w hR ga gb gc ha hb hc hi rfl
 by_cases h18 : o = 18
 · subst h18; exact named_18 w hR ga gb gc ha hb hc hi rfl
 by_cases h23 : o = 23
 · subst h23
   by_cases h1 : m.get c ≤ 128
   · cases h2 : (mkL i).isSome with
     | true =>
       have e : nmd m 23 a b c i = ((m.get b, (m.get c + 7) / 8), (m.get a, 4)) := by unfold nmd; rw [if_neg (by decide), if_neg (by decide), if_pos rfl, if_pos ⟨h1, h2⟩]
       rw [e]
       exact named_23y w hR ga gb gc ha hb hc hi rfl (hU c).1 h1 h2
     | false =>
       have e : nmd m 23 a b c i = ((0, 0), (0, 0)) := by unfold nmd; rw [if_neg (by decide), if_neg (by decide), if_pos rfl, if_neg (fun h => by rw [h2] at h; exact absurd h.2 (by decide))]
       rw [e]
       exact named_23n w hR ga gb gc ha hb hc hi rfl h1 h2
   · have e : nmd m 23 a b c i = ((0, 0), (0, 0)) := by unfold nmd; rw [if_neg (by decide), if_neg (by decide), if_pos rfl, if_neg (fun h => h1 h.1)]
     rw [e]
     exact named_23l w hR ga gb gc ha hb hc hi rfl h1
 by_cases h24 : o = 24
 · subst h24
   have e : nmd m 24 a b c i = ((m.get b, 4), (0, 0)) := by unfold nmd; rw [if_neg (by decide), if_neg (by decide), if_neg (by decide), if_pos (.inl rfl)]
   rw [e]; exact named_24 w hR ga gb gc ha hb hc hi rfl
 by_cases h25 : o = 25
 · subst h25
   have e : nmd m 25 a b c i = ((m.get b, 4), (0, 0)) := by unfold nmd; rw [if_neg (by decide), if_neg (by decide), if_neg (by decide), if_pos (.inr rfl)]
   rw [e]; exact named_25 w hR ga gb gc ha hb hc hi rfl
 have e : nmd m o a b c i = ((0, 0), (0, 0)) := by unfold nmd; rw [if_neg h17, if_neg h18, if_neg h23, if_neg (by intro h; rcases h with h | h; exact h24 h; exact h25 h)]
 rw [e]; exact named_o w hR ga gb gc ha hb hc hi rfl h17 h18 h23 h24 h25
theorem nmd_u {m : Mc} {o : Int} {a b c : Nat} {i : Int} (hU : ∀ k, U64 (m.rg.getD k 0)) : U64 (nmd m o a b c i).1.1 ∧ U64 (nmd m o a b c i).1.2 ∧ U64 (nmd m o a b c i).2.1 ∧ U64 (nmd m o a b c i).2.2 := by
 have u0 : U64 0 := ⟨by decide, by decide⟩
 have u1 : U64 1 := ⟨by decide, by decide⟩
 have u4 : U64 4 := ⟨by decide, by decide⟩
 have ua : U64 (addr m b i) := by unfold addr U64; have := IntKind.wrap_u64 (m.get b + i); rw [this]; omega
 unfold nmd
 split
 · exact ⟨ua, u1, u0, u0⟩
 split
 · exact ⟨u0, u0, ua, u1⟩
 split
 · split
   · next h => exact ⟨hU b, by have := (hU c).1; have h1 := h.1; unfold Mc.get at h1 ⊢; unfold U64; simp only; omega, hU a, u4⟩
   · exact ⟨u0, u0, u0, u0⟩
 split
 · exact ⟨hU b, u4, u0, u0⟩
 · exact ⟨u0, u0, u0, u0⟩
def tch (m : Mc) (n : Nat) (o : Int) (a b c : Nat) (i : Int) : (Int × Int) × (Int × Int) :=
 if inS (nmd m o a b c i).1.1 (nmd m o a b c i).1.2 n = true ∧ inS (nmd m o a b c i).2.1 (nmd m o a b c i).2.2 n = true then nmd m o a b c i else ((0, 0), (0, 0))
theorem parts_ok (pc : Int) (rg : List Int) (s d : Int) (R : List Int) (w : World) (hrg : rg.length = 16) (hR : R.length = 32) (hs : 0 ≤ s ∧ s < 256) (hd : 0 ≤ d ∧ d ≤ 12) (hs2 : s ≤ 2) : Calls Tryz.prog 43 #[.int .u64 pc, .agg (rgA rg), .int .u8 s, .int .i64 d, .agg (h8 R)] w fun e w' => e = .returned (.tuple #[.agg (h8 (cmt pc rg s d R)), .int .i64 0]) ∧ Below w.heap.size w w' := by
 obtain ⟨i0, hi, hz0, hz1, hz2⟩ := info_parts info5
 have hdd : Hid (decide (0 ≤ d ∧ d ≤ 12) = true) := Hid.mk' (decide_eq_true hd)
 have hs3 : ¬ 2 < s := by omega
 have hd8 : d % 256 = d := by omega
 have hd8' : IntKind.u8.wrap d = d := by simp [IntKind.wrap, IntKind.bits, IntKind.signed]; omega
 have hlen := cmB_len (pc := pc) (s := s) (d := d) hrg hR
 have hsum := fun (sp : Option Addr) (c : Nat) (U : World) (h1 : sp = none → 171 = 0 ∧ c = 0) (h2 : SlL U sp (cmB pc rg s d R)) (h3 : 171 ≤ c) => sum_sl sp 171 c (cmB pc rg s d R) U hlen.symm h1 h2 h3 (by omega)
 simp only [sha_h8] at hsum
 have hC32 : (cmt pc rg s d R).length = 32 := shl_len _
 rw [show shl (cmB pc rg s d R) = cmt pc rg s d R from rfl] at hsum
 have hcm : Hid (([2] ++ e8 pc ++ rg.flatMap e8) ++ [s, d] ++ R = cmB pc rg s d R) := Hid.mk' rfl
 generalize cmt pc rg s d R = CC at *
 generalize cmB pc rg s d R = BB at *
 have A0 := ((Arr.new w 23 (rgA rg)).alloc (.cells (h8 R) 30)).alloc (.cells (h8 Z32) 30)
 have A1 := (Arr.new (w.alloc (.cells (rgA rg) 23)) 30 (h8 R)).alloc (.cells (h8 Z32) 30)
 have A2 := Arr.new ((w.alloc (.cells (rgA rg) 23)).alloc (.cells (h8 R) 30)) 30 (h8 Z32)
 simp only [World.size_alloc] at A1 A2
 have hb0 : Below w.heap.size w (((w.alloc (.cells (rgA rg) 23)).alloc (.cells (h8 R) 30)).alloc (.cells (h8 Z32) 30)) := ((alloc_bel' w _).alloc (by simp) _).alloc (by simp; omega) _
 rw [h8_Z] at A0 A1 A2 hb0
 have hrs := rgA_size hrg
 have hix := index58 rg hrg
 generalize hCg : rgA rg = CR at *
 clear hCg
 go_enter Tryz.func43, Tryz.ntmps43
 go_upto_region 3 with (go_at_call 88; go_must (refine (mayDepthM_any _ _).mono ?_; rintro e w1 ⟨rfl, h⟩; replace h := h.symm; subst h; rw [hdd.out]))
 generalize hV : World.alloc _ (.cells _ 30) = V at *
 have hVs : w.heap.size + 3 ≤ V.heap.size := by rw [← hV]; simp
 clear hV
 go_upto_region 5 with (first
   | (at_make; go_must (refine wpList_make_own _ (by rfl) (.const (.int .i64 0)) (.const (.int .i64 171)) 32 (by rfl) V.heap.size 5 i0 (.int .u8 0) 1 Tryz.underlying32 hi hz0 hz1 .i64 .i64 _ 171 (by rfl) (by rfl) (by omega) (by rw [hz2]; omega) (Nat.le_trans (by omega) maxLen_ge) (Nat.le_refl _) ?_; intro w1 hown1 hg1; have hown1 : w1.ownsRow V.heap.size 5 1 (.slice (some ⟨V.heap.size, 0, none⟩) 0 171) 0 (by8 []) := (by simpa [by8] using hown1); have hB1 : Below V.heap.size V w1 := (Below.refl _ _).grown hg1 (Nat.le_refl _) (by simp)))
   | (refine atA (.tmp 24) (.tmp 25) ?_; go_must (refine append_bytes (by rfl) (.tmp 24) (.tmp 25) (by rfl) V.heap.size _ 0 [] (by rfl) (hown1.alloc _) (some ⟨w1.heap.size, 0, none⟩) 1 1 [2] (by rfl) (by rfl) (fun h => by cases h) (Arr.sl (Arr.new w1 5 _)) (by omega) (by have := hB1.size; simp; omega) ?_; intro v2 w2 hown2 hg2; have hB2 : Below V.heap.size V w2 := (hB1.alloc hB1.size _).grown hg2 (by have := hB1.size; simp; omega) (fun k e => own_ge hown1 k e)))
   | (go_at_call 89; go_must (refine (appW_any V.heap.size _ _ _ pc _ hown2 hB2.size (by omega)).mono ?_; rintro e w3 ⟨v3, rfl, hown3, hb3⟩; have hB3 := hB2.trans hb3)))
 have hown3' : w3.ownsRow V.heap.size 5 1 v3 9 (by8 ([2] ++ e8 pc)) := by simpa using hown3
 clear hown3 hown2 hown1 hg1 hg2 hB1 hB2 hb3
 go_upto_region 6 with (refine ld58 (by rfl) (.tmp 6) (by rfl) w.heap.size (by rfl) CR hrs (A0.below hB3 A0.lt) ?_)
 go_loopw [12, 30] (fun v q wr => ∃ (j k : Nat), q = .int .i64 (j : Int) ∧ j ≤ 16 ∧ Hid (k = 9 + 8 * j) ∧ Below V.heap.size V wr ∧ wr.ownsRow V.heap.size 5 1 v k (by8 ([2] ++ e8 pc ++ (rg.take j).flatMap e8))) (fun _ q _ => 16 - (intOf q).toNat)
 case atStart => exact ⟨0, 9, rfl, by omega, Hid.mk' rfl, hB3, by simpa using hown3'⟩
 case round =>
   clear hown3' hB3
   obtain ⟨j, k, rfl, hj, hk, hbl, hown⟩ := hrel
   have hbs := hbl.size
   by_cases hlt : j < 16
   · have hI : (j : Int) < 16 := by omega
     replace hix := hix j hlt
     have hft : Hid ([2] ++ e8 pc ++ (rg.take (j + 1)).flatMap e8 = [2] ++ e8 pc ++ (rg.take j).flatMap e8 ++ e8 (rg.getD j 0)) := Hid.mk' (by rw [flatMap_take (by omega)]; simp only [List.append_assoc])
     generalize rg.getD j 0 = y at *
     have hk10 : k ≤ 1000 := by have := hk.out; omega
     generalize [2] ++ e8 pc ++ (rg.take j).flatMap e8 = B0 at *
     go_wp2_with (go_at_call 89; go_must (refine (appW_any V.heap.size k _ B0 y _ hown hbs hk10).mono ?_; rintro e w4 ⟨v4, rfl, hown4, hb4⟩))
     go_roundw
     case rel => exact ⟨j + 1, k + 8, by go_num, by omega, Hid.mk' (by have := hk.out; omega), hbl.trans hb4, by rw [hft.out]; exact hown4⟩
     case measure => simp [intOf]; omega
   · obtain rfl : j = 16 := by omega
     have hI : ¬ ((16 : Nat) : Int) < 16 := by omega
     obtain rfl : k = 137 := hk.out
     rw [List.take_of_length_le (by omega)] at hown
     generalize [2] ++ e8 pc ++ rg.flatMap e8 = B0 at *
     have Q1 := A1.below hbl A1.lt
     have Q2 := A2.below hbl A2.lt
     clear hk
     go_wp2_with (first
       | (refine atA (.tmp 37) (.tmp 41) ?_; go_must (refine append_bytes (by rfl) (.tmp 37) (.tmp 41) (by rfl) V.heap.size _ 137 B0 (by rfl) (hown.alloc _) (some ⟨wr.heap.size, 0, none⟩) 2 2 [s, d] (by rfl) (by rfl) (fun h => by cases h) (Arr.sl (Arr.new wr 5 _)) (by omega) (by simp; omega) ?_; intro v5 w5 hown5 hg5; have hB5 : Below V.heap.size V w5 := (hbl.alloc hbs _).grown hg5 (by simp; omega) (fun k e => own_ge hown k e); have Q15 := A1.below hB5 A1.lt; have Q25 := A2.below hB5 A2.lt))
       | (refine atA (.tmp 43) (.tmp 44) ?_; go_must (refine append_bytes (by rfl) (.tmp 43) (.tmp 44) (by rfl) V.heap.size _ 139 (B0 ++ [s, d]) (by rfl) hown5 (some ⟨w.heap.size + 1, 0, none⟩) 32 32 R (by rfl) hR.symm (fun h => by cases h) (h8_sl Q15) (by omega) hB5.size ?_; intro v6 w6 hown6 hg6; rw [hcm.out] at hown6; have hB6 : Below V.heap.size V w6 := hB5.grown hg6 hB5.size (fun k e => own_ge hown5 k e); have Q26 := A2.below hB6 A2.lt; obtain ⟨g6, c6, rfl, -, hc6, -, hSl6⟩ := sl_of_own hown6 (by omega)))
       | (go_at_call 90; go_must (refine (hsum _ _ _ (fun h => by cases h) hSl6 hc6).mono ?_; rintro e w7 ⟨rfl, hb7⟩; have Q27 := Q26.below hb7 Q26.lt; have hB7 := hB6.trans (hb7.mono hB6.size)))
       | (refine st24 (by rfl) _ _ (by rfl) (w.heap.size + 1 + 1) CC Z32 (by rfl) (by rfl) hC32 Z32_len Q27 ?_))
     exact bodyPost_ret (v := .tuple #[.agg (h8 CC), .int .i64 0]) (resP Tryz.results43 rfl rfl hC32 (Q27.setRow _)) rfl ⟨rfl, below_setRow (hb0.trans (hB7.mono (by omega))) (by omega) _⟩
theorem refParts_ok (pc : Int) (rg : List Int) (s d : Int) (R : List Int) (w : World) (hrg : rg.length = 16) (hR : R.length = 32) (hs : 0 ≤ s ∧ s < 256) (hd : 0 ≤ d ∧ d ≤ 12) (hs2 : s ≤ 2) : Calls Tryz.prog 48 #[.int .u64 pc, .agg (rgA rg), .int .u8 s, .int .i64 d, .agg (h8 R)] w fun e w' => e = .returned (.tuple #[.agg (h8 (cmt pc rg s d R)), .int .i64 0]) ∧ Below w.heap.size w w' := by
 have hs3 : ¬ 2 < s := by omega
 have hd1 : ¬ d < 0 := by omega
 have hd2 : ¬ 12 < d := by omega
 have hd8 : d % 256 = d := by omega
 have hd8' : IntKind.u8.wrap d = d := by simp [IntKind.wrap, IntKind.bits, IntKind.signed]; omega
 have hlen := cmB_len (pc := pc) (s := s) (d := d) hrg hR
 have hsum := fun (sp : Option Addr) (c : Nat) (U : World) (h1 : sp = none → 171 = 0 ∧ c = 0) (h2 : SlL U sp (cmB pc rg s d R)) => refSum_any sp 171 c (cmB pc rg s d R) U hlen.symm h1 h2 (by omega)
 simp only [sha_h8] at hsum
 have hC32 : (cmt pc rg s d R).length = 32 := shl_len _
 rw [show shl (cmB pc rg s d R) = cmt pc rg s d R from rfl] at hsum
 have hcm : Hid (([2] ++ e8 pc ++ rg.flatMap e8) ++ [s, d] ++ R = cmB pc rg s d R) := Hid.mk' rfl
 generalize cmt pc rg s d R = CC at *
 generalize cmB pc rg s d R = BB at *
 have A0 := ((Arr.new w 23 (rgA rg)).alloc (.cells (h8 R) 30)).alloc (.cells (h8 Z32) 30)
 have A1 := (Arr.new (w.alloc (.cells (rgA rg) 23)) 30 (h8 R)).alloc (.cells (h8 Z32) 30)
 have A2 := Arr.new ((w.alloc (.cells (rgA rg) 23)).alloc (.cells (h8 R) 30)) 30 (h8 Z32)
 simp only [World.size_alloc] at A1 A2
 have hb0 : Below w.heap.size w (((w.alloc (.cells (rgA rg) 23)).alloc (.cells (h8 R) 30)).alloc (.cells (h8 Z32) 30)) := ((alloc_bel' w _).alloc (by simp) _).alloc (by simp; omega) _
 rw [h8_Z] at A0 A1 A2 hb0
 have hat := fun (k : Nat) (hk : k < 16) => rgA_at (rg := rg) (k := k) (by omega)
 generalize hCg : rgA rg = CR at *
 clear hCg
 go_enter Tryz.func48, Tryz.ntmps48
 go_upto_region 3 with fail
 generalize hV : World.alloc _ (.cells _ 30) = V at *
 have hVs : w.heap.size + 3 ≤ V.heap.size := by rw [← hV]; simp
 clear hV
 have hlit : (V.alloc (.cells #[.int .u8 2] 5)).ownsRow V.heap.size 5 1 (.slice (some ⟨V.heap.size, 0, none⟩) 1 1) 1 (by8 [2]) := World.ownsRow_lit _ _ _ (Nat.le_refl _) (by unfold maxLen; omega) rfl
 have hBl := alloc_bel' V (.cells #[.int .u8 2] 5)
 go_upto_region 4 with (first
   | (go_at_call 64; go_must (refine (eight_any pc _).mono ?_; rintro e w2 ⟨v2, rfl, hown2, hb2⟩; obtain ⟨g2, c2, rfl, -, hc2, hgb2, hSl2⟩ := sl_of_own hown2 (by omega); have hB2 := hBl.trans (hb2.mono (by simp)); have hlit2 := own_same hlit (fun k hk => hb2.block k (own_lt hlit hk))))
   | (refine atA (.tmp 25) (.tmp 27) ?_; go_must (refine append_bytes (by rfl) (.tmp 25) (.tmp 27) (by rfl) V.heap.size _ 1 [2] (by rfl) hlit2 (some ⟨g2, 0, none⟩) 8 c2 (e8 pc) (by rfl) (by rw [e8_len]) (fun h => by cases h) hSl2 (by omega) hB2.size ?_; intro v3 w3 hown3 hg3; have hB3 : Below V.heap.size V w3 := hB2.grown hg3 hB2.size (fun k e => own_ge hlit2 k e))))
 clear hlit hBl hlit2 hown2 hb2 hSl2 hB2 hg3
 go_wp2_with fail
 go_loopw [12, 13] (fun v q wr => ∃ (j k : Nat), q = .int .i64 (j : Int) ∧ j ≤ 16 ∧ Hid (k = 9 + 8 * j) ∧ Below V.heap.size V wr ∧ wr.ownsRow V.heap.size 5 1 v k (by8 ([2] ++ e8 pc ++ (rg.take j).flatMap e8))) (fun _ q _ => 16 - (intOf q).toNat)
 case atStart => exact ⟨0, 9, rfl, by omega, Hid.mk' rfl, hB3, by simpa using hown3⟩
 case round =>
   clear hown3 hB3
   obtain ⟨j, k, rfl, hj, hk, hbl, hown⟩ := hrel
   have hbs := hbl.size
   by_cases hlt : j < 16
   · have hI : (j : Int) < 16 := by omega
     have hcj := ((A0.below hbl A0.lt).cell j).trans (hat j hlt)
     clear hat
     have hft : Hid ([2] ++ e8 pc ++ (rg.take (j + 1)).flatMap e8 = [2] ++ e8 pc ++ (rg.take j).flatMap e8 ++ e8 (rg.getD j 0)) := Hid.mk' (by rw [flatMap_take (by omega)]; simp only [List.append_assoc])
     generalize rg.getD j 0 = y at *
     have hk10 : k ≤ 1000 := by have := hk.out; omega
     generalize [2] ++ e8 pc ++ (rg.take j).flatMap e8 = B0 at *
     go_wp2_with (first
       | (go_at_call 64; go_must (refine (eight_any y _).mono ?_; rintro e w4 ⟨v4, rfl, hown4, hb4⟩; obtain ⟨g4, c4, rfl, -, hc4, hgb4, hSl4⟩ := sl_of_own hown4 (by omega); have hB4 := hbl.trans (hb4.mono hbs); have own4 := own_same hown (fun k hk => hb4.block k (own_lt hown hk))))
       | (refine atA (.tmp 33) (.tmp 37) ?_; go_must (refine append_bytes (by rfl) (.tmp 33) (.tmp 37) (by rfl) V.heap.size _ k B0 (by rfl) own4 (some ⟨g4, 0, none⟩) 8 c4 (e8 y) (by rfl) (by rw [e8_len]) (fun h => by cases h) hSl4 (by omega) hB4.size ?_; intro v5 w5 hown5 hg5; have hB5 : Below V.heap.size V w5 := hB4.grown hg5 hB4.size (fun k e => own_ge own4 k e))))
     go_roundw
     case rel => exact ⟨j + 1, k + 8, by go_num, by omega, Hid.mk' (by have := hk.out; omega), hB5, by rw [hft.out]; exact hown5⟩
     case measure => simp [intOf]; omega
   · obtain rfl : j = 16 := by omega
     have hI : ¬ ((16 : Nat) : Int) < 16 := by omega
     obtain rfl : k = 137 := hk.out
     rw [List.take_of_length_le (by omega)] at hown
     generalize [2] ++ e8 pc ++ rg.flatMap e8 = B0 at *
     clear hk hat
     go_wp2_with (first
       | (refine atA (.tmp 39) (.tmp 43) ?_; go_must (refine append_bytes (by rfl) (.tmp 39) (.tmp 43) (by rfl) V.heap.size _ 137 B0 (by rfl) (hown.alloc _) (some ⟨wr.heap.size, 0, none⟩) 2 2 [s, d] (by rfl) (by rfl) (fun h => by cases h) (Arr.sl (Arr.new wr 5 _)) (by omega) (by simp; omega) ?_; intro v5 w5 hown5 hg5; have hB5 : Below V.heap.size V w5 := (hbl.alloc hbs _).grown hg5 (by simp; omega) (fun k e => own_ge hown k e); have Q15 := A1.below hB5 A1.lt; have Q25 := A2.below hB5 A2.lt))
       | (refine atA (.tmp 45) (.tmp 46) ?_; go_must (refine append_bytes (by rfl) (.tmp 45) (.tmp 46) (by rfl) V.heap.size _ 139 (B0 ++ [s, d]) (by rfl) hown5 (some ⟨w.heap.size + 1, 0, none⟩) 32 32 R (by rfl) hR.symm (fun h => by cases h) (h8_sl Q15) (by omega) hB5.size ?_; intro v6 w6 hown6 hg6; rw [hcm.out] at hown6; have hB6 : Below V.heap.size V w6 := hB5.grown hg6 hB5.size (fun k e => own_ge hown5 k e); have Q26 := A2.below hB6 A2.lt; obtain ⟨g6, c6, rfl, -, hc6, -, hSl6⟩ := sl_of_own hown6 (by omega)))
       | (go_at_call 23; go_must (refine (hsum _ _ _ (fun h => by cases h) hSl6).mono ?_; rintro e w7 ⟨rfl, hb7⟩; have Q27 := Q26.below hb7 Q26.lt; have hB7 := hB6.trans (hb7.mono hB6.size)))
       | (refine st24 (by rfl) _ _ (by rfl) (w.heap.size + 1 + 1) CC Z32 (by rfl) (by rfl) hC32 Z32_len Q27 ?_))
     exact bodyPost_ret (v := .tuple #[.agg (h8 CC), .int .i64 0]) (resP Tryz.results48 rfl rfl hC32 (Q27.setRow _)) rfl ⟨rfl, below_setRow (hb0.trans (hB7.mono (by omega))) (by omega) _⟩
theorem parts_any (pc : Int) (rg : List Int) (s d : Int) (R : List Int) (w : World) (hrg : rg.length = 16) (hR : R.length = 32) (hs : 0 ≤ s ∧ s < 256) : Calls Tryz.prog 43 #[.int .u64 pc, .agg (rgA rg), .int .u8 s, .int .i64 d, .agg (h8 R)] w fun e w' => e = .returned (.tuple #[.agg (h8 (cmR pc rg s d R)), .int .i64 (cmE s d)]) ∧ Below w.heap.size w w' := by
 unfold cmR cmE
 by_cases h : 0 ≤ d ∧ d ≤ 12
 · by_cases h2 : s ≤ 2
   · rw [if_pos (show cOK s d from ⟨h.1, h.2, h2⟩), if_pos (show cOK s d from ⟨h.1, h.2, h2⟩)]; exact parts_ok pc rg s d R w hrg hR hs h h2
   · rw [if_neg (fun hh : cOK s d => h2 hh.2.2), if_neg (fun hh : cOK s d => h2 hh.2.2)]; exact parts_no2 pc rg s d R w hrg hR hs h h2
 · rw [if_neg (fun hh : cOK s d => h ⟨hh.1, hh.2.1⟩), if_neg (fun hh : cOK s d => h ⟨hh.1, hh.2.1⟩)]; exact parts_no1 pc rg s d R w hrg hR hs h
theorem refParts_any (pc : Int) (rg : List Int) (s d : Int) (R : List Int) (w : World) (hrg : rg.length = 16) (hR : R.length = 32) (hs : 0 ≤ s ∧ s < 256) : Calls Tryz.prog 48 #[.int .u64 pc, .agg (rgA rg), .int .u8 s, .int .i64 d, .agg (h8 R)] w fun e w' => e = .returned (.tuple #[.agg (h8 (cmR pc rg s d R)), .int .i64 (cmE s d)]) ∧ Below w.heap.size w w' := by
 unfold cmR cmE
 by_cases h : 0 ≤ d ∧ d ≤ 12
 · by_cases h2 : s ≤ 2
   · rw [if_pos (show cOK s d from ⟨h.1, h.2, h2⟩), if_pos (show cOK s d from ⟨h.1, h.2, h2⟩)]; exact refParts_ok pc rg s d R w hrg hR hs h h2
   · rw [if_neg (fun hh : cOK s d => h2 hh.2.2), if_neg (fun hh : cOK s d => h2 hh.2.2)]; exact refParts_no3 pc rg s d R w hrg hR hs (by omega) (by omega) (by omega)
 · rw [if_neg (fun hh : cOK s d => h ⟨hh.1, hh.2.1⟩), if_neg (fun hh : cOK s d => h ⟨hh.1, hh.2.1⟩)]
   by_cases h0 : d < 0
   · exact refParts_no1 pc rg s d R w hrg hR hs h0
   · exact refParts_no2 pc rg s d R w hrg hR hs h0 (by omega)
end Go.Proofs.YtagebcbnenehfaaGreat
