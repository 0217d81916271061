/- Ag0, QCa, QCb, ZZTo, QTi, QCc, QLa, QZTn, QZTo, QVa, QVd, QVf, Mm, Mn. -/
import Derived.Test.YtagebcbnenehfaaGreatX11
namespace Go.Proofs.YtagebcbnenehfaaGreat
open Go.RowKit
set_option maxRecDepth 100000
set_option linter.unusedVariables false
set_option linter.unusedSimpArgs false
set_option maxHeartbeats 40000000
theorem size72 : (Tryz.prog.info? 142).map (·.size) = some 3 := by kernel_rfl
def tA (v u : Value) : Array Value := #[fL, v, u]
theorem tA_one {v u : Value} (hv : v.oneCell' = true) (hu : u.oneCell' = true) : (tA v u).all (·.oneCell') = true := by
 have hf : fL.oneCell' = true := rfl
 simp [tA, hf, hv, hu]
theorem ld72 {ops : Array Oper} {rest : List Oper} {o : Oper} {a : Act} {w : World} {Q : Exit → Act → World → Prop} (hgd : o.guard = none) (x : Operand) (ho : o.op = .load 142 x)
   (g : Nat) (hx : a.eval x = .pointer (some ⟨g, 0, none⟩)) (v u : Value) (hA : Arr w g 142 (tA v u))
   (h : wpList Tryz.prog ops Q rest (a.put o.dst (.agg (tA v u))) w) : wpList Tryz.prog ops Q (o :: rest) a w :=
 wpList_load_row hgd 142 x ho g hx 142 (tA v u) (0, 0) _ hA Tryz.underlying142 rfl size72 h
theorem st72 {ops : Array Oper} {rest : List Oper} {o : Oper} {a : Act} {w : World} {Q : Exit → Act → World → Prop} (hgd : o.guard = none) (x y : Operand) (ho : o.op = .store 142 x y)
   (g : Nat) (v u : Value) (hx : a.eval x = .pointer (some ⟨g, 0, none⟩)) (hy : a.eval y = .agg (tA v u)) (h1 : (tA v u).all (·.oneCell') = true) (D : Array Value) (hD : D.size = 3) (hA : Arr w g 142 D)
   (h : wpList Tryz.prog ops Q rest (a.put o.dst undef) (w.setRow g (tA v u))) : wpList Tryz.prog ops Q (o :: rest) a w :=
 wpList_store_arr hgd 142 x y ho g (tA v u) hx hy 142 D hA size72 (by rw [hD]; rfl) h1 h
theorem st72n {ops : Array Oper} {rest : List Oper} {o : Oper} {a : Act} {Q : Exit → Act → World → Prop} (hgd : o.guard = none) (x y : Operand) (ho : o.op = .store 142 x y) (W : World) (g : Nat) (hgW : W.heap.size = g) {z : Array Value} (hz : z.size = 3)
   (v u : Value) (hx : a.eval x = .pointer (some ⟨g, 0, none⟩)) (hy : a.eval y = .agg (tA v u)) (h1 : (tA v u).all (·.oneCell') = true)
   (h : wpList Tryz.prog ops Q rest (a.put o.dst undef) (W.alloc (.cells (tA v u) 142))) : wpList Tryz.prog ops Q (o :: rest) a (W.alloc (.cells z 142)) := by
 subst hgW
 exact wpList_store_new W z 142 hgd 142 x y ho (tA v u) hx hy size72 (by rw [hz]; rfl) h1 h
theorem res72 {f : Func} {w : World} {tmps : Array Value} {g t : Nat} {v u : Value} (hf : f.results = #[.cell t 142]) (hp : tmps.getD t undef = .pointer (some ⟨g, 0, none⟩)) (hA : Arr w g 142 (tA v u)) :
   (results f tmps).run Tryz.prog w = .ok (.agg (tA v u)) w := results_cell_row hf _ _ g 142 _ (0, 0) _ hp hA Tryz.underlying142 rfl size72
theorem own_ne {w : World} {base e s n g ty : Nat} {v : Value} {xs : List Value} {C : Array Value} (h : w.ownsRow base e s v n xs) (hA : Arr w g ty C) (hne : ty ≠ e) : some g ≠ v.ownBlock := by
 intro hv
 obtain ⟨-, ⟨rfl, -⟩ | ⟨b, cap, cur, rfl, -, hh, -⟩⟩ := h
 · cases hv
 · simp [Value.ownBlock] at hv
   subst hv
   unfold Arr at hA
   rw [hh] at hA
   simp at hA
   exact hne hA.2.symm
theorem own_hb {w : World} {base n : Nat} {v : Value} {T : List (List Int)} (h : w.ownsRow base 30 32 v n (flat32 T)) (hl : ∀ x ∈ T, x.length = 32) (hn : T.length = n) (h0 : 0 < n) :
   ∃ gl cl, v = .slice (some ⟨gl, 0, none⟩) n cl ∧ base ≤ gl ∧ n ≤ cl ∧ cl ≤ 9223372036854775807 ∧ HB w gl T := by
 obtain ⟨-, ⟨-, h⟩ | ⟨g, cap, cur, rfl, hg, hh, hnc, hcm, hc, ht⟩⟩ := h
 · omega
 · refine ⟨g, cap, rfl, hg, hnc, by unfold maxLen at hcm; omega, ⟨cur, hh⟩, fun i X hX j u hu => ?_, hl⟩
   have hi := (List.getElem?_eq_some_iff.1 hX).1
   have hj : j < 32 := by
     have := (List.getElem?_eq_some_iff.1 hu).1
     rw [by8_len, hl X (List.mem_of_getElem? hX)] at this; exact this
   rw [cell_of_row w g _ cur 30 (0, 0) hh, ← Array.getElem?_toList, ← List.getElem?_take_of_lt (show i * 32 + j < n * 32 by omega), ht]
   exact flat32_at hl hX hu
theorem own_sl43 {w : World} {base n e s : Nat} {v : Value} {xs : List Value} (h : w.ownsRow base e s v n xs) (h0 : 0 < n) : ∃ gl cl, v = .slice (some ⟨gl, 0, none⟩) n cl := by
 obtain ⟨-, ⟨-, h⟩ | ⟨g, cap, cur, rfl, -⟩⟩ := h
 · omega
 · exact ⟨g, cap, rfl⟩
theorem take_snoc {ls : List (List Int)} {j : Nat} (h : j < ls.length) : ls.take (j + 1) = ls.take j ++ [tat ls j] := by
 rw [List.take_add_one, tat_get h]; rfl
structure GI (w : World) (b0 gT : Nat) (v u : Value) (j : Nat) (T : List (List Int)) (wr : World) : Prop where
 a0 : Arr wr b0 142 #[.nilFunc, .slice none 0 0, .slice none 0 0]
 aT : Arr wr gT 142 (tA v u)
 own : wr.ownsRow (b0 + 1) 30 32 u j (flat32 T)
 bel : Below w.heap.size w wr
theorem GI.below {w : World} {b0 gT : Nat} {v u : Value} {j : Nat} {T : List (List Int)} {wr w' : World} (h : GI w b0 gT v u j T wr) (hb : Below wr.heap.size wr w') : GI w b0 gT v u j T w' :=
 ⟨h.a0.below hb h.a0.lt, h.aT.below hb h.aT.lt, own_same h.own (fun k hk => hb.block k (own_lt h.own hk)), h.bel.trans (hb.mono h.bel.size)⟩
theorem GI.c2 {w : World} {b0 gT : Nat} {v u : Value} {j : Nat} {T : List (List Int)} {wr : World} (h : GI w b0 gT v u j T wr) : wr.cell? ⟨gT, 2, none⟩ = some u := h.aT.cell 2
theorem GI.app {w : World} {b0 gT : Nat} {v u u' : Value} {j : Nat} {T : List (List Int)} {wr w' : World} {X : List Int} {o : Obj} (h : GI w b0 gT v u j T wr) (hb0 : b0 = w.heap.size) (hne : b0 < gT) (h1 : w'.ownsRow (b0 + 1) 30 32 u' (j + 1) (flat32 (T ++ [X]))) (hg : (wr.alloc o).grownBy w' u.ownBlock) :
   w'.cell? ⟨gT, 2, none⟩ = some u ∧ w'.frozen? ⟨gT, 2, none⟩ = false ∧ GI w b0 gT v u' (j + 1) (T ++ [X]) (w'.setCell ⟨gT, 2, none⟩ u') := by
 have e : ∀ k, k < wr.heap.size → some k ≠ u.ownBlock → w'.heap[k]? = wr.heap[k]? := fun k hk hn => (hg.block k (by simp; omega) hn).trans ((alloc_bel' wr o).block k hk)
 have aT' : Arr w' gT 142 (tA v u) := (e gT h.aT.lt (own_ne h.own h.aT (by decide))).trans h.aT
 have a0' : Arr w' b0 142 #[.nilFunc, .slice none 0 0, .slice none 0 0] := (e b0 h.a0.lt (own_ne h.own h.a0 (by decide))).trans h.a0
 have hsz := h.bel.size
 refine ⟨aT'.cell 2, aT'.frozen 2, a0'.setOther _ (show b0 ≠ gT by omega), ?_, ?_, ?_⟩
 · have := aT'.set 2 u'
   exact this
 · refine own_same h1 (fun k hk => Below.heap_setCell _ _ _ _ ?_)
   intro ek
   subst ek
   exact own_ne h1 aT' (by decide) hk.symm
 · have hb := (h.bel.alloc hsz o).grown hg (by simp; omega) (fun k e => by have := own_ge h.own k e; omega)
   have hgT : w.heap.size ≤ gT := by omega
   exact hb.setCell (p := ⟨gT, 2, none⟩) hgT _
theorem Bts.app {L M : List Int} (h : Bts L) (h' : Bts M) : Bts (L ++ M) := by
 intro x hx; rcases List.mem_append.1 hx with h1 | h1
 · exact h x h1
 · exact h' x h1
set_option maxRecDepth 100000 in
theorem clone_any (sp : Option Addr) (n cap : Nat) (L : List Int) (N : Nat) (w : World) (hS : BS N w sp n cap L) :
   Calls Tryz.prog 182 #[.slice sp n cap] w fun e w' => ∃ v, e = .returned v ∧ w'.ownsRow w.heap.size 5 1 v n (by8 L) ∧ Below w.heap.size w w' := by
 have hn := hS.len
 have hsm := hS.small
 have q22 : ∀ (w : World) (a : Option Addr) (n c n' c' : Nat), (binOp .eql 32 (.slice a n c) (.slice none n' c')).run Tryz.prog w = .ok (.bool a.isNone) w := fun w a n c n' c' => Lib.run_eql_slice_nil w _ _ a n c n' c' Tryz.underlying32
 cases sp with
 | none =>
   obtain ⟨rfl, rfl⟩ := hS.nil rfl
   go_enter Tryz.func182, Tryz.ntmps182
   go_wp2
   go_ret
   obtain rfl : L = [] := List.eq_nil_of_length_eq_zero hn.out.symm
   exact ⟨_, rfl, World.ownsRow_nil _ _ _ _, Below.refl _ _⟩
 | some ad =>
   have hlit : (w.alloc (.cells #[] 5)).ownsRow w.heap.size 5 1 (.slice (some ⟨w.heap.size, 0, none⟩) 0 0) 0 (by8 []) := World.ownsRow_lit _ _ _ (Nat.le_refl _) (by unfold maxLen; omega) rfl
   have hS' := (hS.here.below ((Below.refl _ _).alloc (Nat.le_refl _) (.cells #[] 5))).sl
   go_enter Tryz.func182, Tryz.ntmps182
   go_wp2_with (at_builtin; go_must (refine append_bytes (by rfl) (.tmp 5) (.tmp 6) (by rfl) w.heap.size _ 0 [] (by rfl) hlit (some ad) n cap L (by rfl) hn.out (fun e => by cases e) hS' (by omega) (by simp) ?_; intro v1 w1 hown1 hg1))
   go_ret
   refine ⟨v1, rfl, ?_, ((Below.refl _ _).alloc (Nat.le_refl _) _).grown hg1 (by simp) (fun k e => by simp [Value.ownBlock] at e; omega)⟩
   simpa using hown1
structure En where
 sp : Option Addr
 n : Nat
 cap : Nat
 bs : List Int
 sm : List Int
def En.cells (e : En) : List Value := .slice e.sp e.n e.cap :: by8 e.sm
def En.arr (e : En) : Array Value := e.cells.toArray
structure EnOK (N : Nat) (w : World) (e : En) : Prop where
 body : BS N w e.sp e.n e.cap e.bs
 s32 : e.sm.length = 32
theorem EnOK.below {N : Nat} {w w' : World} {e : En} (h : EnOK N w e) (hb : Below N w w') : EnOK N w' e := ⟨h.body.below hb, h.s32⟩
theorem EnOK.mono {N N' : Nat} {w : World} {e : En} (h : EnOK N w e) (hN : N ≤ N') : EnOK N' w e := ⟨h.body.mono hN, h.s32⟩
theorem EnOK.here {N : Nat} {w : World} {e : En} (h : EnOK N w e) : EnOK w.heap.size w e := ⟨h.body.here, h.s32⟩
theorem En.len {e : En} (h : e.sm.length = 32) : e.cells.length = 33 := by simp [En.cells, by8_len, h]
theorem En.size {e : En} (h : e.sm.length = 32) : e.arr.size = 33 := by simp [En.arr, En.len h]
theorem En.one (e : En) : ∀ v ∈ e.cells, v.oneCell' = true := by
 intro v hv
 rcases List.mem_cons.1 hv with rfl | h
 · rfl
 · exact by8_one _ v h
theorem En.oneA (e : En) : e.arr.all (·.oneCell') = true := all_oneCell_toArray e.one
structure ES (N : Nat) (w : World) (sp : Option Addr) (n cap : Nat) (es : List En) : Prop where
 len : Hid (n = es.length)
 nil : sp = none → n = 0 ∧ cap = 0
 le : n ≤ cap
 big : cap ≤ 9223372036854775807
 small : n ≤ 140737488355328
 at0 : 0 < n → ∃ g off, sp = some ⟨g, off, none⟩ ∧ g < N ∧ ∀ i e, es[i]? = some e → w.rangeAt g (off + i * 33) e.cells
 ok : ∀ e ∈ es, EnOK N w e
theorem ES.below {N : Nat} {w w' : World} {sp : Option Addr} {n cap : Nat} {es : List En} (h : ES N w sp n cap es) (hb : Below N w w') : ES N w' sp n cap es :=
 ⟨h.len, h.nil, h.le, h.big, h.small, fun h0 => let ⟨b, off, e, hbN, hB⟩ := h.at0 h0; ⟨b, off, e, hbN, fun i X hX => range_below (hB i X hX) hb hbN⟩, fun e he => (h.ok e he).below hb⟩
theorem ES.mono {N N' : Nat} {w : World} {sp : Option Addr} {n cap : Nat} {es : List En} (h : ES N w sp n cap es) (hN : N ≤ N') : ES N' w sp n cap es :=
 ⟨h.len, h.nil, h.le, h.big, h.small, fun h0 => let ⟨b, off, e, hb, hB⟩ := h.at0 h0; ⟨b, off, e, by omega, hB⟩, fun e he => (h.ok e he).mono hN⟩
theorem ES.here {N : Nat} {w : World} {sp : Option Addr} {n cap : Nat} {es : List En} (h : ES N w sp n cap es) : ES w.heap.size w sp n cap es :=
 ⟨h.len, h.nil, h.le, h.big, h.small, fun h0 => by
   obtain ⟨b, off, e, hbN, hB⟩ := h.at0 h0
   refine ⟨b, off, e, ?_, hB⟩
   have hl : 0 < es.length := by rw [← h.len.out]; exact h0
   exact block_lt_of_cell (hB 0 es[0] (List.getElem?_eq_getElem hl) 0 _ rfl), fun e he => (h.ok e he).here⟩
theorem ES.nil0 (N : Nat) (w : World) : ES N w none 0 0 [] := ⟨rfl, fun _ => ⟨rfl, rfl⟩, Nat.le_refl _, by omega, by omega, fun h => absurd h (by omega), fun e h => by cases h⟩
theorem size54 : (Tryz.prog.info? 61).map (·.size) = some 33 := by kernel_rfl
theorem s54 {e : En} (h : e.sm.length = 32) : (Tryz.prog.info? 61).map (·.size) = some e.arr.size := by rw [En.size h]; exact size54
theorem rangeE {w : World} {g ty : Nat} {e : En} (h : Arr w g ty e.arr) : w.rangeAt g 0 e.cells := fun j v hv => by
 rw [Nat.zero_add, h.cell]; simpa [En.arr] using hv
theorem range_c0 {w : World} {g o : Nat} {e : En} (h : w.rangeAt g o e.cells) : w.cell? ⟨g, o, none⟩ = some (.slice e.sp e.n e.cap) := by simpa using h 0 _ rfl
theorem range_sm {w : World} {g o : Nat} {e : En} (h : w.rangeAt g o e.cells) : w.rangeAt g (o + 1) (by8 e.sm) := fun j v hv => by
 rw [Nat.add_assoc, Nat.add_comm 1 j]
 exact h (j + 1) v (by simpa [En.cells] using hv)
theorem ld54 {ops : Array Oper} {rest : List Oper} {o : Oper} {a : Act} {w : World} {Q : Exit → Act → World → Prop} (hgd : o.guard = none) (x : Operand) (ho : o.op = .load 61 x)
   (b off : Nat) (hx : a.eval x = .pointer (some ⟨b, off, none⟩)) (e : En) (he : e.sm.length = 32) (hc : w.rangeAt b off e.cells)
   (h : wpList Tryz.prog ops Q rest (a.put o.dst (.agg e.arr)) w) : wpList Tryz.prog ops Q (o :: rest) a w :=
 wpList_load_mid hgd 61 x ho b off hx e.cells _ hc Tryz.underlying61 rfl (by rw [En.len he]; exact size54) h
theorem st54n {ops : Array Oper} {rest : List Oper} {o : Oper} {a : Act} {Q : Exit → Act → World → Prop} (hgd : o.guard = none) (x y : Operand) (ho : o.op = .store 61 x y) (W : World) (g : Nat) (hgW : W.heap.size = g) {z : Array Value} (hz : z.size = 33)
   (e : En) (hx : a.eval x = .pointer (some ⟨g, 0, none⟩)) (hy : a.eval y = .agg e.arr) (he : e.sm.length = 32)
   (h : wpList Tryz.prog ops Q rest (a.put o.dst undef) (W.alloc (.cells e.arr 61))) : wpList Tryz.prog ops Q (o :: rest) a (W.alloc (.cells z 61)) := by
 subst hgW
 exact wpList_store_new W z 61 hgd 61 x y ho e.arr hx hy (s54 he) (by rw [hz, En.size he]) e.oneA h
theorem wrap64_of {x : Int} (h : 0 ≤ x) (h2 : x < 18446744073709551616) : IntKind.u64.wrap x = x := by
 simp only [IntKind.wrap, IntKind.bits, IntKind.signed]; simp; omega
theorem index24 (C : Array Value) (f : Nat → Int) (hC : ∀ t, t < 32 → C[t]? = some (.int .u8 (f t))) (k : Nat) (hk : k < 32) (w : World) :
   (Instr.index 30 (.agg C) (.int .i64 k)).run Tryz.prog w = .ok (.int .u8 (f k)) w := by
 have e : C[k]? = some (.int .u8 (f k)) := hC k hk
 simp [Instr.index, asIntOf, run_underlying Tryz.underlying30, Tryz.sizeOf5, part, Tryz.isAgg5, hk, e]
def entsH (L : List (List Int × Int × Nat)) : List MapEntry := L.map fun x => { key := .agg (h8 x.1), val := .int .i64 x.2.1, born := x.2.2 }
def kvH (L : List (List Int × Int × Nat)) (k : List Int) : Option Int := (L.find? (fun x => decide (x.1 = k))).map (·.2.1)
def MapH (w : World) (r : Nat) (m : List Int → Option Int) : Prop := ∃ L clock, w.heap[r]? = some (.map (entsH L).toArray clock) ∧ (∀ x ∈ L, x.1.length = 32) ∧ ∀ k, kvH L k = m k
theorem MapH.new (w : World) : MapH (w.alloc (.map #[] 0)) w.heap.size (fun _ => none) := ⟨[], 0, heap_alloc_new w _, (fun x h => by cases h), fun _ => rfl⟩
theorem MapH.same {w w' : World} {r : Nat} {m : List Int → Option Int} (h : MapH w r m) (he : w'.heap[r]? = w.heap[r]?) : MapH w' r m := by
 obtain ⟨L, clock, h1, h2⟩ := h
 exact ⟨L, clock, he.trans h1, h2⟩
theorem MapH.lt {w : World} {r : Nat} {m : List Int → Option Int} (h : MapH w r m) : r < w.heap.size := by
 obtain ⟨L, clock, h1, h2⟩ := h
 exact (Array.getElem?_eq_some_iff.1 h1).1
theorem run_equal29 {X Y : List Int} (hX : X.length = 32) (hY : Y.length = 32) (w : World) : (Op.equal 30 (.agg (h8 X)) (.agg (h8 Y))).run Tryz.prog w = .ok (decide (X = Y)) w := run_eqIn24 hX hY w
theorem find_ask (k : List Int) (hk : k.length = 32) (w : World) : ∀ (L : List (List Int × Int × Nat)) (i : Nat), (∀ x ∈ L, x.1.length = 32) → (kvH L k = none ∧ (Instr.findAsking 30 (.agg (h8 k)) (entsH L) i).run Tryz.prog w = .ok none w) ∨ ∃ v j, kvH L k = some v ∧ (Instr.findAsking 30 (.agg (h8 k)) (entsH L) i).run Tryz.prog w = .ok (some (j, .int .i64 v)) w
 | [], i, _ => .inl ⟨rfl, by simp [entsH, Instr.findAsking]⟩
 | x :: L, i, hl => by
   have hx := hl x (by simp)
   have he := run_equal29 hk hx w
   by_cases h : x.1 = k
   · right
     refine ⟨x.2.1, i, by simp [kvH, h], ?_⟩
     rw [decide_eq_true h.symm] at he
     simp [entsH, Instr.findAsking, Sem.run_bind, he]
   · rw [decide_eq_false (fun e => h e.symm)] at he
     have h1 : kvH (x :: L) k = kvH L k := by simp [kvH, h]
     have h2 : (Instr.findAsking 30 (.agg (h8 k)) (entsH (x :: L)) i).run Tryz.prog w = (Instr.findAsking 30 (.agg (h8 k)) (entsH L) (i + 1)).run Tryz.prog w := by
       simp [entsH, Instr.findAsking, Sem.run_bind, he]
     rw [h1, h2]
     exact find_ask k hk w L (i + 1) (fun y hy => hl y (by simp [hy]))
theorem find_key (k : List Int) (hk : k.length = 32) (w : World) (L : List (List Int × Int × Nat)) (hl : ∀ x ∈ L, x.1.length = 32) : (kvH L k = none ∧ (Instr.findKey 30 (.agg (h8 k)) (entsH L)).run Tryz.prog w = .ok none w) ∨ ∃ v j, kvH L k = some v ∧ (Instr.findKey 30 (.agg (h8 k)) (entsH L)).run Tryz.prog w = .ok (some (j, .int .i64 v)) w := by
 cases L with
 | nil => exact .inl ⟨rfl, by simp [entsH, Instr.findKey, Instr.findNow, Sem.run_bind, run_underlying Tryz.underlying30]⟩
 | cons x L =>
   have e : (Instr.findKey 30 (.agg (h8 k)) (entsH (x :: L))).run Tryz.prog w = (Instr.findAsking 30 (.agg (h8 k)) (entsH (x :: L)) 0).run Tryz.prog w := by
     simp [entsH, Instr.findKey, Instr.findNow, Instr.sameNow, Sem.run_bind, run_underlying Tryz.underlying30]
   rw [e]
   exact find_ask k hk w (x :: L) 0 hl
theorem check_byte (b : Bool) (n : Nat) (z : Int) (w : World) : (Instr.checkKey b (n + 1) 5 (.int .u8 z)).run Tryz.prog w = .ok () w := by
 rw [Instr.checkKey]
 simp only [Sem.run_bind, run_underlying Tryz.underlying5, Result.andThen_ok]
 rfl
theorem check_sum (X : List Int) (hX : X.length = 32) (w : World) (b : Bool) : (Instr.checkKey b 10000 30 (.agg (h8 X))).run Tryz.prog w = .ok () w := by
 obtain ⟨i0, hi, -, hz1, -⟩ := info_parts info5
 have hc : Tryz.prog.cellsOf 5 = 1 := by kernel_rfl
 have each : ∀ j ∈ List.range' 0 32, (part 5 (h8 X) (j * Tryz.prog.cellsOf 5)).run Tryz.prog w = .ok (.int .u8 (bat X j)) w := fun j hj => by
   have hj : j < 32 := by simpa using hj
   have hg := h8_get (X := X) (t := j) (by omega)
   have ha := @Tryz.isAgg5
   simp [part, ha, hc, hg]
 have hb9 : ∀ z : Int, (Instr.checkKey b 9999 5 (.int .u8 z)).run Tryz.prog w = .ok () w := fun z => check_byte b 9998 z w
 rw [show (10000 : Nat) = 9999 + 1 from rfl, Instr.checkKey]
 simp only [Sem.run_bind, run_underlying Tryz.underlying30, Result.andThen_ok]
 simp only [Std.Legacy.Range.forIn_eq_forIn_range', Std.Legacy.Range.size, Nat.sub_zero, Nat.add_one_sub_one, Nat.div_one]
 generalize List.range' 0 32 = is at each
 induction is with
 | nil => simp
 | cons j is ih =>
   have p1 := each j (by simp)
   simp only [List.forIn_cons, Sem.run_bind, run_sizeOf w hi, Result.andThen_ok, p1, hb9, Sem.run_pure]
   exact ih (fun y hy => each y (by simp [hy]))
theorem run_lookupH {w : World} {r : Nat} {m : List Int → Option Int} (h : MapH w r m) (k : List Int) (hk : k.length = 32) :
   (Instr.lookup 243 (.map (some r)) (.agg (h8 k)) true).run Tryz.prog w = .ok (.tuple #[.int .i64 ((m k).getD 0), .bool (m k).isSome]) w := by
 obtain ⟨L, clock, h1, hl, h2⟩ := h
 have hg : (getObj r).run Tryz.prog w = .ok (.map (entsH L).toArray clock) w := by simp [getObj, Sem.run, h1]
 have hck := check_sum k hk w
 have hz : (zeroValue 3).run Tryz.prog w = .ok (.int .i64 0) w := by kernel_rfl
 rw [← h2]
 rcases find_key k hk w L hl with ⟨e1, e2⟩ | ⟨v, j, e1, e2⟩
 · simp [Instr.lookup, Sem.run_bind, run_underlying Tryz.underlying243, hg, hck, e1, e2, Result.andThen, hz]
 · simp [Instr.lookup, Sem.run_bind, run_underlying Tryz.underlying243, hg, hck, e1, e2, Result.andThen]
theorem run_updateH {w : World} {r : Nat} {m : List Int → Option Int} (h : MapH w r m) (k : List Int) (hk : k.length = 32) (v : Int) (hno : m k = none) :
   ∃ o, (Instr.mapUpdate 243 (.map (some r)) (.agg (h8 k)) (.int .i64 v)).run Tryz.prog w = .ok () (w.putObj r o) ∧ MapH (w.putObj r o) r (fun j => if j = k then some v else m j) := by
 obtain ⟨L, clock, h1, hl, h2⟩ := h
 have hlt := (Array.getElem?_eq_some_iff.1 h1).1
 have hg : (getObj r).run Tryz.prog w = .ok (.map (entsH L).toArray clock) w := by simp [getObj, Sem.run, h1]
 have hs : ∀ o, (setObj r o).run Tryz.prog w = .ok () (w.putObj r o) := fun o => by simp [setObj, Sem.run, h1, World.putObj]
 have hck := check_sum k hk w
 rcases find_key k hk w L hl with ⟨e1, e2⟩ | ⟨v', j, e1, e2⟩
 · refine ⟨.map ((entsH L).toArray.push { key := .agg (h8 k), val := .int .i64 v, born := clock }) (clock + 1), ?_, L ++ [(k, v, clock)], clock + 1, ?_, ?_, fun j => ?_⟩
   · simp [Instr.mapUpdate, Sem.run_bind, run_underlying Tryz.underlying243, hg, hck, hs, e2, Result.andThen]
   · rw [World.putObj_heap_same hlt]; simp [entsH]
   · intro x hx
     rcases List.mem_append.1 hx with hx | hx
     · exact hl x hx
     · simp at hx; subst hx; exact hk
   · have : kvH (L ++ [(k, v, clock)]) j = (kvH L j).or (if j = k then some v else none) := by
       simp only [kvH, List.find?_append, Option.map_or]
       congr 1
       by_cases e : j = k
       · subst e; simp
       · simp [e, Ne.symm e]
     rw [this, h2]
     by_cases e : j = k
     · subst e; rw [hno]; simp
     · simp [e]
 · rw [h2, hno] at e1; cases e1
theorem Chg.setCell {S : Nat → Prop} {a b : World} (h : Chg S a b) {g j : Nat} (v : Value) (hg : g < a.heap.size → S g) : Chg S a (b.setCell ⟨g, j, none⟩ v) :=
 ⟨h.os, h.tape, h.output, by simpa [World.setCell] using h.size, fun i hi hs => (Below.heap_setCell _ _ _ _ (fun e => hs (by have e : i = g := e; subst e; exact hg hi))).trans (h.block i hi hs)⟩
theorem u8s_one (n : Nat) (f : Nat → Int) : (u8s n f).all (·.oneCell') = true := one_ints (u8s_size n f) (fun _ h => u8s_get h)
theorem s24u8 (f : Nat → Int) : (Tryz.prog.info? 30).map (·.size) = some (u8s 32 f).size := by rw [u8s_size]; exact size24
def wacc (H : Nat → Int) (j : Nat) : Nat → Int
 | 0 => 0
 | m + 1 => wacc H j m * 256 + H (8 * j + m)
def wpart (H : Nat → Int) (k j : Nat) : Int := wacc H j (min (k - 8 * j) 8)
def u64s (n : Nat) (f : Nat → Int) : Array Value := arr n fun t => .int .u64 (f t)
theorem u64s_size (n : Nat) (f : Nat → Int) : (u64s n f).size = n := arr_size _ _
theorem u64s_get {n : Nat} {f : Nat → Int} {t : Nat} (h : t < n) : (u64s n f)[t]? = some (.int .u64 (f t)) := arr_get h
theorem u64s_one (n : Nat) (f : Nat → Int) : (u64s n f).all (·.oneCell') = true := one_ints (u64s_size n f) (fun _ h => u64s_get h)
theorem size30 : (Tryz.prog.info? 96).map (·.size) = some 4 := by kernel_rfl
theorem s30u (f : Nat → Int) : (Tryz.prog.info? 96).map (·.size) = some (u64s 4 f).size := by rw [u64s_size]; exact size30
def wordsOf (H : Nat → Int) : Array Value := u64s 4 fun j => wacc H j 8
theorem wacc_range {H : Nat → Int} (hH : ∀ t, t < 32 → 0 ≤ H t ∧ H t ≤ 255) {j : Nat} (hj : j < 4) : ∀ m, m ≤ 8 → 0 ≤ wacc H j m ∧ wacc H j m < 256 ^ m
 | 0, _ => by simp [wacc]
 | m + 1, h => by
   have ih := wacc_range hH hj m (by omega)
   have hb := hH (8 * j + m) (by omega)
   have e : (256 : Int) ^ (m + 1) = 256 ^ m * 256 := by rw [Int.pow_succ]
   simp only [wacc, e]; omega
theorem or8 (x b : Int) (hx : 0 ≤ x) (hx2 : x < 72057594037927936) (hb : 0 ≤ b) (hb2 : b ≤ 255) : bits .or .u64 (x * 256) b = x * 256 + b := by
 obtain ⟨k, rfl⟩ : ∃ k : Nat, x = k := ⟨x.toNat, by omega⟩
 obtain ⟨j, rfl⟩ : ∃ j : Nat, b = j := ⟨b.toNat, by omega⟩
 have h1 : (BitVec.ofInt 64 ((k : Int) * 256)).toNat = k * 256 := by
   rw [show ((k : Int) * 256) = ((k * 256 : Nat) : Int) by omega, BitVec.ofInt_natCast, BitVec.toNat_ofNat]; omega
 have h2 : (BitVec.ofInt 64 (j : Int)).toNat = j := by
   rw [BitVec.ofInt_natCast, BitVec.toNat_ofNat]; omega
 have h3 : k * 256 ||| j = k * 256 + j := by
   have := Nat.two_pow_add_eq_or_of_lt (i := 8) (b := j) (by omega) k
   rw [Nat.mul_comm] at this; exact this.symm
 show IntKind.u64.wrap ((BitVec.ofInt 64 ((k : Int) * 256) ||| BitVec.ofInt 64 (j : Int)).toNat : Int) = _
 rw [BitVec.toNat_or, h1, h2, h3]
 simp only [IntKind.wrap, IntKind.bits, IntKind.signed]
 simp; omega
theorem words_val {H : Nat → Int} (hH : ∀ t, t < 32 → 0 ≤ H t ∧ H t ≤ 255) {k : Nat} (hk : k < 32) :
   bits .or .u64 (IntKind.u64.wrap (wpart H k (k / 8) * 256)) (IntKind.u64.wrap (H k)) = wpart H (k + 1) (k / 8) := by
 have e1 : wpart H k (k / 8) = wacc H (k / 8) (k % 8) := by unfold wpart; congr 1; omega
 have e2 : wpart H (k + 1) (k / 8) = wacc H (k / 8) (k % 8 + 1) := by unfold wpart; congr 1; omega
 have e3 : 8 * (k / 8) + k % 8 = k := by omega
 have hr := wacc_range hH (show k / 8 < 4 by omega) (k % 8) (by omega)
 have hp : (256 : Int) ^ (k % 8) ≤ 72057594037927936 := by
   have : k % 8 < 8 := Nat.mod_lt _ (by omega)
   generalize k % 8 = m at this
   match m, this with
   | 0, _ => decide
   | 1, _ => decide
   | 2, _ => decide
   | 3, _ => decide
   | 4, _ => decide
   | 5, _ => decide
   | 6, _ => decide
   | 7, _ => decide
 have hb := hH k hk
 rw [e1, e2, wacc, e3, wrap64_of (by omega) (by omega), wrap64_of (by omega) (by omega), or8 _ _ (by omega) (by omega) hb.1 hb.2]
theorem words_other {H : Nat → Int} {k j : Nat} (h : j ≠ k / 8) : wpart H (k + 1) j = wpart H k j := by
 unfold wpart; congr 1; omega
theorem words_step {C : Array Value} {H : Nat → Int} {k : Nat} (hH : ∀ t, t < 32 → 0 ≤ H t ∧ H t ≤ 255) (hk : k < 32) (hs : C.size = 4) (h : ∀ j, j < 4 → C[j]? = some (.int .u64 (wpart H k j))) (v : Value) :
   ∀ j, j < 4 → ((C.setIfInBounds (k / 8) v).setIfInBounds (k / 8) (.int .u64 (bits .or .u64 (IntKind.u64.wrap (wpart H k (k / 8) * 256)) (IntKind.u64.wrap (H k)))))[j]? = some (.int .u64 (wpart H (k + 1) j)) := by
 intro j hj
 rw [words_val hH hk, Array.getElem?_setIfInBounds]
 by_cases e : k / 8 = j
 · subst e; simp [hs, hj]
 · rw [if_neg e, Array.getElem?_setIfInBounds, if_neg e, h j hj, words_other (Ne.symm e)]
theorem words_any (C0 : Array Value) (H : Nat → Int) (w : World) (hs : C0.size = 32) (hC0 : ∀ t, t < 32 → C0[t]? = some (.int .u8 (H t))) (hH : ∀ t, t < 32 → 0 ≤ H t ∧ H t ≤ 255) :
   Calls Tryz.prog 140 #[.agg C0] w fun e w' => e = .returned (.agg (wordsOf H)) ∧ Below w.heap.size w w' := by
 have s24 : (Tryz.prog.info? 30).map (·.size) = some C0.size := by rw [hs]; exact size24
 have hA0 : ∀ o1 o2, Arr (((w.alloc (.cells C0 30)).alloc o1).alloc o2) w.heap.size 30 C0 := fun o1 o2 => ((Arr.new w 30 C0).alloc o1).alloc o2
 go_enter Tryz.func140, Tryz.ntmps140
 go_wp2_with (refine wpList_load_row (by rfl) 30 (.tmp 1) (by rfl) w.heap.size (by rfl) 30 C0 (0, 0) _ (hA0 _ _) Tryz.underlying30 rfl s24 ?_)
 go_loopw [7] (fun i wr => ∃ (k : Nat) (C Z : Array Value), k ≤ 32 ∧ i = .int .i64 k ∧ Arr wr (w.heap.size + 1) 96 Z ∧ Z.size = 4 ∧ Arr wr (w.heap.size + 1 + 1) 96 C ∧ C.size = 4 ∧ (∀ j, j < 4 → C[j]? = some (.int .u64 (wpart H k j))) ∧ Below w.heap.size w wr)
   (fun i _ => 32 - (intOf i).toNat)
 case atStart => exact ⟨0, _, _, by omega, rfl, by simpa using (Arr.new (w.alloc _) 96 _).alloc _, rfl, by simpa using Arr.new ((w.alloc _).alloc _) 96 _, rfl, fun j hj => by (match j, hj with | 0, _ => rfl | 1, _ => rfl | 2, _ => rfl | 3, _ => rfl), (((Below.refl _ _).alloc (by simp) _).alloc (by simp) _).alloc (by simp; omega) _⟩
 case round =>
   clear hA0
   obtain ⟨k, C, Z, hk, rfl, hZ, hZs, hC, hCs, hw, hbl⟩ := hrel
   have HW := Hid.mk' hw
   clear hw
   by_cases hlt : k < 32
   · have h3 : (k : Int) < 32 := by omega
     have h4 : (0 : Int) ≤ k := by omega
     have hix := index24 C0 H hC0 k hlt
     have c0 : wr.cell? ⟨w.heap.size + 1 + 1, k / 8, none⟩ = some (.int .u64 (wpart H k (k / 8))) := (hC.cell _).trans (HW.out _ (by omega))
     have f0 := hC.frozen (k / 8)
     go_wp2
     go_roundw
     case rel =>
       exact ⟨k + 1, _, Z, by omega, by go_num, (hZ.setOther _ (by simp)).setOther _ (by simp), hZs, (hC.set _ _).set _ _, by simp [hCs], words_step hH hlt hCs HW.out _, (hbl.setCell (by simp; omega) _).setCell (by simp; omega) _⟩
     case measure => simp [intOf]; omega
   · obtain rfl : k = 32 := by omega
     have hCe : C = wordsOf H := arr_eq hCs (fun j hj => by rw [HW.out j hj]; unfold wpart; rw [show min (32 - 8 * j) 8 = 8 by omega])
     subst hCe
     go_wp2_with (first
       | (refine wpList_load_row (by rfl) 96 (.tmp 3) (by rfl) (w.heap.size + 1 + 1) (by rfl) 96 (wordsOf H) (0, 0) _ hC Tryz.underlying96 rfl (s30u _) ?_)
       | (refine wpList_store_arr (by rfl) 96 (.tmp 2) (.tmp 26) (by rfl) (w.heap.size + 1) (wordsOf H) (by rfl) (by rfl) 96 _ hZ (s30u _) (by rw [hZs]; exact (u64s_size _ _).symm) (u64s_one _ _) ?_))
     exact bodyPost_ret (v := .agg (wordsOf H)) (results_cell_row Tryz.results140 _ _ (w.heap.size + 1) 96 _ (0, 0) _ rfl (hZ.setRow _) Tryz.underlying96 rfl (s30u _)) rfl ⟨rfl, below_setRow hbl (by omega) _⟩
def fromB (W : Nat → Int) (t : Nat) : Int := W (t / 8) / 2 ^ (56 - 8 * (t % 8)) % 256
theorem from_any (C0 : Array Value) (W : Nat → Int) (w : World) (hC0 : ∀ t, t < 4 → C0[t]? = some (.int .u64 (W t))) :
   Calls Tryz.prog 172 #[.agg C0] w fun e w' => e = .returned (.agg (u8s 32 (fromB W))) ∧ Below w.heap.size w w' := by
 go_enter Tryz.func172, Tryz.ntmps172
 go_wp2
 go_loopw [5] (fun i wr => ∃ (k : Nat) (C Z : Array Value), k ≤ 32 ∧ i = .int .i64 k ∧ Arr wr w.heap.size 96 C0 ∧ Arr wr (w.heap.size + 1) 30 Z ∧ Z.size = 32 ∧ Arr wr (w.heap.size + 1 + 1) 30 C ∧ C.size = 32 ∧ (∀ t, t < k → C[t]? = some (.int .u8 (fromB W t))) ∧ Below w.heap.size w wr)
   (fun i _ => 32 - (intOf i).toNat)
 case atStart => exact ⟨0, _, _, by omega, rfl, ((Arr.new w 96 C0).alloc _).alloc _, by simpa using (Arr.new (w.alloc _) 30 _).alloc _, rfl, by simpa using Arr.new ((w.alloc _).alloc _) 30 _, rfl, fun j hj => by omega, (((Below.refl _ _).alloc (by simp) _).alloc (by simp) _).alloc (by simp; omega) _⟩
 case round =>
   obtain ⟨k, C, Z, hk, rfl, hX, hZ, hZs, hC, hCs, hw, hbl⟩ := hrel
   have HW := Hid.mk' hw
   clear hw
   by_cases hlt : k < 32
   · have h3 : (k : Int) < 32 := by omega
     have h4 : (0 : Int) ≤ k := by omega
     have c0 : wr.cell? ⟨w.heap.size, k / 8, none⟩ = some (.int .u64 (W (k / 8))) := (hX.cell _).trans (hC0 _ (by omega))
     obtain ⟨v1, c1⟩ := hC.got (j := k) (by omega)
     have f0 := hC.frozen k
     go_wp2
     go_roundw
     case rel =>
       have q := set_step (f := fun t => .int .u8 (fromB W t)) hCs (by omega) HW.out
       exact ⟨k + 1, _, Z, by omega, by go_num, hX.setOther _ (by simp; omega), hZ.setOther _ (by simp), hZs, hC.set _ _, by simp [hCs], q, hbl.setCell (by simp; omega) _⟩
     case measure => simp [intOf]; omega
   · obtain rfl : k = 32 := by omega
     have hCe : C = u8s 32 (fromB W) := arr_eq hCs HW.out
     subst hCe
     go_wp2_with (first
       | (refine wpList_load_row (by rfl) 30 (.tmp 3) (by rfl) (w.heap.size + 1 + 1) (by rfl) 30 (u8s 32 (fromB W)) (0, 0) _ hC Tryz.underlying30 rfl (s24u8 _) ?_)
       | (refine wpList_store_arr (by rfl) 30 (.tmp 2) (.tmp 21) (by rfl) (w.heap.size + 1) (u8s 32 (fromB W)) (by rfl) (by rfl) 30 _ hZ (s24u8 _) (by rw [hZs]; exact (u8s_size _ _).symm) (u8s_one _ _) ?_))
     exact bodyPost_ret (v := .agg (u8s 32 (fromB W))) (results_cell_row Tryz.results172 _ _ (w.heap.size + 1) 30 _ (0, 0) _ rfl (hZ.setRow _) Tryz.underlying30 rfl (s24u8 _)) rfl ⟨rfl, below_setRow hbl (by omega) _⟩
theorem wrap_u64 {x : Int} (h : U64 x) : IntKind.u64.wrap x = x := wrap64_of h.1 h.2
theorem wrap_mod (x : Int) : IntKind.u64.wrap x = x % 18446744073709551616 := by
 simp only [IntKind.wrap, IntKind.bits, IntKind.signed]
 simp
theorem bits_u64 (op : BinOp) (x y : Int) : U64 (bits op .u64 x y) := by
 unfold bits
 exact U64.wrap _
def sl64 (x y : Int) : Int := IntKind.u64.wrap (x * 2 ^ min y.toNat 64)
def sr64 (x y : Int) : Int := x / 2 ^ min y.toNat 64
theorem sl64_big {x y : Int} (h : 64 ≤ y) : sl64 x y = 0 := by
 unfold sl64
 rw [show min y.toNat 64 = 64 from Nat.min_eq_right (by omega), wrap_mod]
 omega
theorem sr64_big {x y : Int} (hx : U64 x) (h : 64 ≤ y) : sr64 x y = 0 := by
 have h1 := hx.1
 have h2 := hx.2
 unfold sr64
 rw [show min y.toNat 64 = 64 from Nat.min_eq_right (by omega)]
 omega
def rk (op x y : Int) : Option Int :=
 if op = 5 then some (IntKind.u64.wrap (x + y)) else if op = 6 then some (IntKind.u64.wrap (x - y)) else if op = 7 then some (IntKind.u64.wrap (x * y))
 else if op = 8 then (if y = 0 then none else some (x / y)) else if op = 9 then (if y = 0 then none else some (x % y))
 else if op = 10 then some (bits .and .u64 x y) else if op = 11 then some (bits .or .u64 x y) else if op = 12 then some (bits .xor .u64 x y)
 else if op = 13 then some (sl64 x y) else if op = 14 then some (sr64 x y)
 else if op = 15 then some (if x < y then 1 else 0) else some (if x = y then 1 else 0)
theorem sl64_u (x y : Int) : U64 (sl64 x y) := U64.wrap _
theorem ediv_u {x y : Int} (hx : U64 x) (hy : 0 ≤ y) : U64 (x / y) := by
 have h1 := hx.1
 have h2 := hx.2
 refine ⟨Int.ediv_nonneg h1 hy, ?_⟩
 have := Int.ediv_le_self y h1
 omega
theorem sr64_u {x : Int} (y : Int) (hx : U64 x) : U64 (sr64 x y) := ediv_u hx (Int.le_of_lt (Int.pow_pos (by omega)))
theorem ops12 {op : Int} (h : 5 ≤ op ∧ op ≤ 16) : op = 5 ∨ op = 6 ∨ op = 7 ∨ op = 8 ∨ op = 9 ∨ op = 10 ∨ op = 11 ∨ op = 12 ∨ op = 13 ∨ op = 14 ∨ op = 15 ∨ op = 16 := by omega
theorem bit_u (b : Prop) [Decidable b] : U64 (if b then 1 else 0) := by
 split <;> (unfold U64; omega)
theorem rk_u {op x y z : Int} (ho : 5 ≤ op ∧ op ≤ 16) (hx : U64 x) (hy : U64 y) (h : rk op x y = some z) : U64 z := by
 have hy1 := hy.1
 have hy2 := hy.2
 rcases ops12 ho with rfl | rfl | rfl | rfl | rfl | rfl | rfl | rfl | rfl | rfl | rfl | rfl
 · rw [← show IntKind.u64.wrap (x + y) = z by simpa [rk] using h]; exact U64.wrap _
 · rw [← show IntKind.u64.wrap (x - y) = z by simpa [rk] using h]; exact U64.wrap _
 · rw [← show IntKind.u64.wrap (x * y) = z by simpa [rk] using h]; exact U64.wrap _
 · have hz' : ¬ y = 0 ∧ x / y = z := by simpa [rk] using h
   rw [← hz'.2]; exact ediv_u hx hy1
 · have hz' : ¬ y = 0 ∧ x % y = z := by simpa [rk] using h
   rw [← hz'.2]
   have h2 := Int.emod_nonneg x hz'.1
   have h3 := Int.emod_lt_of_pos x (show 0 < y by have := hz'.1; omega)
   unfold U64; omega
 · rw [← show bits .and .u64 x y = z by simpa [rk] using h]; exact bits_u64 _ _ _
 · rw [← show bits .or .u64 x y = z by simpa [rk] using h]; exact bits_u64 _ _ _
 · rw [← show bits .xor .u64 x y = z by simpa [rk] using h]; exact bits_u64 _ _ _
 · rw [← show sl64 x y = z by simpa [rk] using h]; exact sl64_u _ _
 · rw [← show sr64 x y = z by simpa [rk] using h]; exact sr64_u _ hx
 · rw [← show (if x < y then 1 else 0) = z by simpa [rk] using h]; exact bit_u _
 · rw [← show (if x = y then 1 else 0) = z by simpa [rk] using h]; exact bit_u _
theorem rk_none {op x y : Int} (ho : 5 ≤ op ∧ op ≤ 16) (hz : rk op x y = none) : (op = 8 ∨ op = 9) ∧ y = 0 := by
 rcases ops12 ho with rfl | rfl | rfl | rfl | rfl | rfl | rfl | rfl | rfl | rfl | rfl | rfl <;> simp [rk] at hz ⊢ <;> exact hz
def trapV : List PanicEntry := [{ v := .iface 264 (.agg #[]), recovered := false }]
def dOp (w : Int) : Int := w / 72057594037927936
def dA (w : Int) : Int := w / 4503599627370496 % 16
def dB (w : Int) : Int := w / 281474976710656 % 16
def dC (w : Int) : Int := w / 17592186044416 % 16
def dI (w : Int) : Int := w % 4294967296
def dOk (w : Int) : Bool := decide (1 ≤ dOp w ∧ dOp w ≤ 25 ∧ w / 4294967296 % 4096 = 0)
def wdI (o a b c i : Int) : Int := o * 72057594037927936 + a % 16 * 4503599627370496 + b % 16 * 281474976710656 + c % 16 * 17592186044416 + i
theorem wdI_u {o a b c i : Int} (ho : 0 ≤ o ∧ o < 256) (hi : 0 ≤ i ∧ i < 4294967296) : U64 (wdI o a b c i) := by
 unfold U64 wdI; omega
def cdA (o a b c i : Int) : Array Value := #[.int .u8 o, .int .u8 a, .int .u8 b, .int .u8 c, .int .u32 i]
theorem word_dec {w : Int} (hw : U64 w) : wdI (dOp w) (dA w) (dB w) (dC w) (dI w) = w ↔ w / 4294967296 % 4096 = 0 := by
 have h1 := hw.1
 have h2 := hw.2
 unfold wdI dOp dA dB dC dI
 omega
theorem toNat64 {x : Int} (h : U64 x) : (BitVec.ofInt 64 x).toNat = x.toNat := by
 have h1 := h.1
 have h2 := h.2
 rw [BitVec.toNat_ofInt]
 omega
theorem and15_64 {x : Int} (h : U64 x) : bits .and .u64 x 15 = x % 16 := by
 have h1 := h.1
 have e : (BitVec.ofInt 64 15).toNat = 2 ^ 4 - 1 := by decide
 show IntKind.u64.wrap ((BitVec.ofInt 64 x &&& BitVec.ofInt 64 15).toNat : Int) = _
 rw [BitVec.toNat_and, toNat64 h, e, Nat.and_two_pow_sub_one_eq_mod, wrap_mod]
 have := h.2
 omega
theorem and15_8 {x : Int} (h : 0 ≤ x ∧ x < 256) : bits .and .u8 x 15 = x % 16 := by
 have e : (BitVec.ofInt 8 15).toNat = 2 ^ 4 - 1 := by decide
 have e2 : (BitVec.ofInt 8 x).toNat = x.toNat := by rw [BitVec.toNat_ofInt]; omega
 show IntKind.u8.wrap ((BitVec.ofInt 8 x &&& BitVec.ofInt 8 15).toNat : Int) = _
 rw [BitVec.toNat_and, e2, e, Nat.and_two_pow_sub_one_eq_mod]
 simp only [IntKind.wrap, IntKind.bits, IntKind.signed]
 simp
 omega
theorem nat_gap (x : Nat) : x &&& 17587891077120 = x / 4294967296 % 4096 * 4294967296 := by
 have e : (17587891077120 : Nat) = 4095 <<< 32 := by decide
 have e2 : x / 4294967296 % 4096 * 4294967296 = ((x >>> 32) &&& 4095) <<< 32 := by
   rw [show (4095 : Nat) = 2 ^ 12 - 1 by decide, Nat.and_two_pow_sub_one_eq_mod, Nat.shiftLeft_eq, Nat.shiftRight_eq_div_pow]
 rw [e, e2]
 apply Nat.eq_of_testBit_eq
 intro i
 simp only [Nat.testBit_and, Nat.testBit_shiftLeft, Nat.testBit_shiftRight]
 by_cases h : 32 ≤ i
 · simp [h, show 32 + (i - 32) = i by omega]
 · simp [h]
theorem and_gap {x : Int} (h : U64 x) : bits .and .u64 x 17587891077120 = x / 4294967296 % 4096 * 4294967296 := by
 have h1 := h.1
 have h2 := h.2
 have e : (BitVec.ofInt 64 17587891077120).toNat = 17587891077120 := by decide
 show IntKind.u64.wrap ((BitVec.ofInt 64 x &&& BitVec.ofInt 64 17587891077120).toNat : Int) = _
 rw [BitVec.toNat_and, toNat64 h, e, nat_gap, wrap_mod]
 omega
theorem or_add (k q y : Nat) (hy : y < 2 ^ k) (h : 2 ^ k * q + y < 18446744073709551616) : bits .or .u64 ((2 ^ k * q : Nat) : Int) (y : Int) = ((2 ^ k * q + y : Nat) : Int) := by
 have e1 : (BitVec.ofInt 64 ((2 ^ k * q : Nat) : Int)).toNat = 2 ^ k * q := by rw [toNat64 ⟨by omega, by omega⟩]; omega
 have e2 : (BitVec.ofInt 64 (y : Int)).toNat = y := by rw [toNat64 ⟨by omega, by omega⟩]; omega
 show IntKind.u64.wrap ((BitVec.ofInt 64 ((2 ^ k * q : Nat) : Int) ||| BitVec.ofInt 64 (y : Int)).toNat : Int) = _
 rw [BitVec.toNat_or, e1, e2, ← Nat.two_pow_add_eq_or_of_lt hy, wrap_mod]
 omega
theorem or_addI (k : Nat) {x y : Int} (hx : U64 x) (hd : x % (2 ^ k : Nat) = 0) (hy : 0 ≤ y ∧ y < (2 ^ k : Nat)) (h : x + y < 18446744073709551616) : bits .or .u64 x y = x + y := by
 have h1 := hx.1
 obtain ⟨q, hq⟩ : ∃ q, x.toNat = 2 ^ k * q := by
   refine ⟨x.toNat / 2 ^ k, ?_⟩
   have : x.toNat % 2 ^ k = 0 := by
     have e : x = (x.toNat : Int) := by omega
     rw [e] at hd
     exact_mod_cast hd
   have h3 := Nat.div_add_mod x.toNat (2 ^ k)
   omega
 have hq' : x = ((2 ^ k * q : Nat) : Int) := by omega
 have := or_add k q y.toNat (by have := hy.1; have := hy.2; omega) (by have := hy.1; omega)
 rw [hq', show y = (y.toNat : Int) by have := hy.1; omega, this]
 omega
def wdV (o a b c i : Int) : Int := bits .or .u64 (bits .or .u64 (bits .or .u64 (bits .or .u64 (IntKind.u64.wrap (IntKind.u64.wrap o * 72057594037927936)) (IntKind.u64.wrap (IntKind.u64.wrap (bits .and .u8 a 15) * 4503599627370496))) (IntKind.u64.wrap (IntKind.u64.wrap (bits .and .u8 b 15) * 281474976710656))) (IntKind.u64.wrap (IntKind.u64.wrap (bits .and .u8 c 15) * 17592186044416))) (IntKind.u64.wrap i)
theorem wdV_eq {o a b c i : Int} (ho : 0 ≤ o ∧ o < 256) (ha : 0 ≤ a ∧ a < 256) (hb : 0 ≤ b ∧ b < 256) (hc : 0 ≤ c ∧ c < 256) (hi : 0 ≤ i ∧ i < 4294967296) : wdV o a b c i = wdI o a b c i := by
 unfold wdV wdI
 rw [and15_8 ha, and15_8 hb, and15_8 hc]
 have wr : ∀ x : Int, 0 ≤ x → x < 18446744073709551616 → IntKind.u64.wrap x = x := fun x h1 h2 => wrap_u64 ⟨h1, h2⟩
 rw [wr o (by omega) (by omega), wr (a % 16) (by omega) (by omega), wr (b % 16) (by omega) (by omega), wr (c % 16) (by omega) (by omega), wr i (by omega) (by omega),
   wr (o * 72057594037927936) (by omega) (by omega), wr (a % 16 * 4503599627370496) (by omega) (by omega), wr (b % 16 * 281474976710656) (by omega) (by omega), wr (c % 16 * 17592186044416) (by omega) (by omega)]
 have p56 : ((2 ^ 56 : Nat) : Int) = 72057594037927936 := by decide
 have p52 : ((2 ^ 52 : Nat) : Int) = 4503599627370496 := by decide
 have p48 : ((2 ^ 48 : Nat) : Int) = 281474976710656 := by decide
 have p44 : ((2 ^ 44 : Nat) : Int) = 17592186044416 := by decide
 rw [or_addI 56 (x := o * 72057594037927936) (y := a % 16 * 4503599627370496) ⟨by omega, by omega⟩ (by rw [p56]; omega) (by rw [p56]; omega) (by omega),
   or_addI 52 (x := o * 72057594037927936 + a % 16 * 4503599627370496) (y := b % 16 * 281474976710656) ⟨by omega, by omega⟩ (by rw [p52]; omega) (by rw [p52]; omega) (by omega),
   or_addI 48 (x := o * 72057594037927936 + a % 16 * 4503599627370496 + b % 16 * 281474976710656) (y := c % 16 * 17592186044416) ⟨by omega, by omega⟩ (by rw [p48]; omega) (by rw [p48]; omega) (by omega),
   or_addI 44 (x := o * 72057594037927936 + a % 16 * 4503599627370496 + b % 16 * 281474976710656 + c % 16 * 17592186044416) (y := i) ⟨by omega, by omega⟩ (by rw [p44]; omega) (by rw [p44]; omega) (by omega)]
theorem refWord_any {o a b c i : Int} (w : World) (ho : 0 ≤ o ∧ o < 256) (ha : 0 ≤ a ∧ a < 256) (hb : 0 ≤ b ∧ b < 256) (hc : 0 ≤ c ∧ c < 256) (hi : 0 ≤ i ∧ i < 4294967296) :
   Calls Tryz.prog 86 #[.agg (cdA o a b c i)] w fun e w' => e = .returned (.int .u64 (wdI o a b c i)) ∧ Below w.heap.size w w' := by
 have E := Hid.mk' (wdV_eq ho ha hb hc hi)
 clear ho ha hb hc hi
 unfold cdA
 go_enter Tryz.func86, Tryz.ntmps86
 go_wp2
 go_ret
 exact ⟨congrArg (fun z => Ending.returned (Value.int IntKind.u64 z)) E.out, (Below.refl _ _).alloc (Nat.le_refl _) _⟩
section
theorem by64_set (L : List Int) (t : Nat) (x : Int) : (by64 L).set t (.int .u64 x) = by64 (L.set t x) := by
 simp [by64, List.map_set]
theorem mcL_x {m : Mc} (h : m.rg.length = 16) (v : Value) (X : List Value) (j : Nat) : (mcL m v ++ X)[19 + j]? = X[j]? := by
 rw [List.getElem?_append_right (by rw [mcL_len h]; omega), mcL_len h, Nat.add_sub_cancel_left]
theorem mcL_setPc (m : Mc) (v : Value) (X : List Value) (x : Int) : (mcL m v ++ X).set 0 (.int .u64 x) = mcL { m with pc := x } v ++ X := rfl
theorem mcL_setReg {m : Mc} (h : m.rg.length = 16) (v : Value) (X : List Value) {a : Nat} (ha : a < 16) (x : Int) : (mcL m v ++ X).set (1 + a) (.int .u64 x) = mcL { m with rg := m.rg.set a x } v ++ X := by
 rw [List.set_append_left _ _ (by rw [mcL_len h]; omega), mcL, Nat.add_comm, List.set_cons_succ, List.set_append_left _ _ (by rw [by64_len, h]; exact ha), by64_set]
 rfl
theorem mcL_setSt {m : Mc} (h : m.rg.length = 16) (v : Value) (X : List Value) (x : Int) : (mcL m v ++ X).set 17 (.int .u8 x) = mcL { m with st := x } v ++ X := by
 rw [List.set_append_left _ _ (by rw [mcL_len h]; omega), mcL, List.set_cons_succ, List.set_append_right _ _ (by rw [by64_len, h]; omega), by64_len, h]
 rfl
theorem MW.frozen {w : World} {gm : Nat} {L : List Int} (h : MW w gm L) (t : Nat) : w.frozen? ⟨gm, t, none⟩ = false := by
 obtain ⟨C, hA, hC⟩ := h
 exact hA.frozen t
theorem getD_set (L : List Int) (k t : Nat) (x : Int) (hk : k < L.length) : (L.set k x).getD t 0 = if t = k then x else L.getD t 0 := by
 simp only [List.getD_eq_getElem?_getD, List.getElem?_set]
 by_cases h : k = t
 · subst h; simp [hk]
 · simp [h, Ne.symm h]
theorem MW.setOther {w : World} {gm : Nat} {L : List Int} (h : MW w gm L) {a : Addr} (v : Value) (ha : gm ≠ a.block) : MW (w.setCell a v) gm L := by
 obtain ⟨C, hA, hC⟩ := h
 exact ⟨C, hA.setOther v ha, hC⟩
theorem MW.block {w w' : World} {gm : Nat} {L : List Int} (h : MW w gm L) (he : w'.heap[gm]? = w.heap[gm]?) : MW w' gm L := by
 obtain ⟨C, hA, hC⟩ := h
 exact ⟨C, he.trans hA, hC⟩
structure EN (w : World) (g : Nat) (ty : TypeId) (X : List Value) (gm n cap : Nat) (m : Mc) : Prop where
 eng : Arr w g ty (mcL m (.slice (some ⟨gm, 0, none⟩) n cap) ++ X).toArray
 mem : MW w gm m.me
 ne : g ≠ gm
 len : Hid (n = m.me.length)
 small : n ≤ 4096
 cap : n ≤ cap ∧ cap ≤ 9223372036854775807
 ok : m.ok
section
variable {w w' : World} {g gm n cap : Nat} {ty : TypeId} {X : List Value} {m : Mc}
theorem EN.c0 (h : EN w g ty X gm n cap m) : w.cell? ⟨g, 0, none⟩ = some (.int .u64 m.pc) := by
 rw [h.eng.cell]; rfl
theorem EN.cr (h : EN w g ty X gm n cap m) {a : Nat} (ha : a < 16) : w.cell? ⟨g, 1 + a, none⟩ = some (.int .u64 (m.rg.getD a 0)) := by
 rw [h.eng.cell]; simpa using mcL_reg h.ok.r16 _ X ha
theorem EN.c17 (h : EN w g ty X gm n cap m) : w.cell? ⟨g, 17, none⟩ = some (.int .u8 m.st) := by
 rw [h.eng.cell]; simpa using mcL_st h.ok.r16 _ X
theorem EN.c18 (h : EN w g ty X gm n cap m) : w.cell? ⟨g, 18, none⟩ = some (.slice (some ⟨gm, 0, none⟩) n cap) := by
 rw [h.eng.cell]; simpa using mcL_me h.ok.r16 _ X
theorem EN.cx (h : EN w g ty X gm n cap m) (j : Nat) : w.cell? ⟨g, 19 + j, none⟩ = X[j]? := by
 rw [h.eng.cell]; simpa using mcL_x h.ok.r16 _ X j
theorem EN.fz (h : EN w g ty X gm n cap m) (j : Nat) : w.frozen? ⟨g, j, none⟩ = false := h.eng.frozen j
theorem EN.cm (h : EN w g ty X gm n cap m) {t : Nat} (ht : t < n) : w.cell? ⟨gm, t, none⟩ = some (.int .u64 (m.me.getD t 0)) := h.mem.cell (by rw [← h.len.out]; exact ht)
theorem EN.fm (h : EN w g ty X gm n cap m) (j : Nat) : w.frozen? ⟨gm, j, none⟩ = false := h.mem.frozen j
theorem EN.lt (h : EN w g ty X gm n cap m) : g < w.heap.size := h.eng.lt
theorem EN.ltm (h : EN w g ty X gm n cap m) : gm < w.heap.size := h.mem.lt
theorem EN.below {B : Nat} (h : EN w g ty X gm n cap m) (hb : Below B w w') (hg : g < B) (hm : gm < B) : EN w' g ty X gm n cap m :=
 ⟨h.eng.below hb hg, h.mem.below hb hm, h.ne, h.len, h.small, h.cap, h.ok⟩
theorem EN.bel (h : EN w g ty X gm n cap m) (hb : Below w.heap.size w w') : EN w' g ty X gm n cap m := h.below hb h.lt h.ltm
theorem EN.block (h : EN w g ty X gm n cap m) (h1 : w'.heap[g]? = w.heap[g]?) (h2 : w'.heap[gm]? = w.heap[gm]?) : EN w' g ty X gm n cap m :=
 ⟨h1.trans h.eng, h.mem.block h2, h.ne, h.len, h.small, h.cap, h.ok⟩
theorem EN.setPc (h : EN w g ty X gm n cap m) {x : Int} (hx : U64 x) : EN (w.setCell ⟨g, 0, none⟩ (.int .u64 x)) g ty X gm n cap { m with pc := x } :=
 ⟨by have := h.eng.set 0 (.int .u64 x); rw [List.setIfInBounds_toArray, mcL_setPc] at this; exact this, h.mem.setOther _ (Ne.symm h.ne), h.ne, h.len, h.small, h.cap, ⟨hx, h.ok.r16, h.ok.rg, h.ok.st, h.ok.me⟩⟩
theorem EN.setSt (h : EN w g ty X gm n cap m) {x : Int} (hx : 0 ≤ x ∧ x < 256) : EN (w.setCell ⟨g, 17, none⟩ (.int .u8 x)) g ty X gm n cap { m with st := x } :=
 ⟨by have := h.eng.set 17 (.int .u8 x); rw [List.setIfInBounds_toArray, mcL_setSt h.ok.r16] at this; exact this, h.mem.setOther _ (Ne.symm h.ne), h.ne, h.len, h.small, h.cap, ⟨h.ok.pc, h.ok.r16, h.ok.rg, hx, h.ok.me⟩⟩
theorem EN.setReg (h : EN w g ty X gm n cap m) {a : Nat} (ha : a < 16) {x : Int} (hx : U64 x) : EN (w.setCell ⟨g, 1 + a, none⟩ (.int .u64 x)) g ty X gm n cap { m with rg := m.rg.set a x } :=
 ⟨by have := h.eng.set (1 + a) (.int .u64 x); rw [List.setIfInBounds_toArray, mcL_setReg h.ok.r16 _ _ ha] at this; exact this, h.mem.setOther _ (Ne.symm h.ne), h.ne, h.len, h.small, h.cap,
   ⟨h.ok.pc, by simpa using h.ok.r16, fun k => by rw [getD_set _ _ _ _ (by rw [h.ok.r16]; exact ha)]; split; exact hx; exact h.ok.rg k, h.ok.st, h.ok.me⟩⟩
theorem EN.setMem (h : EN w g ty X gm n cap m) {k : Nat} (hk : k < n) {x : Int} (hx : U64 x) : EN (w.setCell ⟨gm, k, none⟩ (.int .u64 x)) g ty X gm n cap { m with me := m.me.set k x } :=
 ⟨h.eng.setOther _ h.ne, h.mem.set (by rw [← h.len.out]; exact hk) x, h.ne, by show n = _; rw [List.length_set]; exact h.len.out, h.small, h.cap,
   ⟨h.ok.pc, h.ok.r16, h.ok.rg, h.ok.st, fun t => by rw [getD_set _ _ _ _ (by rw [← h.len.out]; exact hk)]; split; exact hx; exact h.ok.me t⟩⟩
end
end
section
open Go.RowKit Go.Shelf
def zz : Array Value := arr 544 fun _ => .int .u8 0
theorem zz_get {t : Nat} (h : t < 544) : zz[t]? = some (.int .u8 0) := arr_get h
theorem bat_Z (j : Nat) : bat Z32 j = 0 := by
 unfold bat Z32
 rw [List.getD_eq_getElem?_getD, List.getElem?_replicate]
 split <;> rfl
theorem lv_new {w : World} {g ty : Nat} (h : Arr w g ty zz) : LV w g (fun _ => Z32) := by
 refine ⟨fun k hk j v hv => ?_, fun _ => Z32_len, fun j hj => ⟨?_, h.frozen _⟩⟩
 · have hj : j < 32 := by
     have := (List.getElem?_eq_some_iff.1 hv).1
     rw [by8_len, Z32_len] at this; exact this
   rw [h.cell, zz_get (by omega), ← hv, by8_get (by rw [Z32_len]; exact hj), bat_Z]
 · rw [h.cell, zz_get (by omega)]; rfl
theorem zero72 : (Tryz.prog.info? 308).map (·.zero) = some (some (.agg zz)) := by kernel_rfl
theorem zeroValue72 (w : World) : (zeroValue 308).run Tryz.prog w = .ok (.agg zz) w := by
 have h := zero72
 cases hq : Tryz.prog.info? 308 with
 | none => rw [hq] at h; cases h
 | some i =>
   rw [hq] at h
   have hz : i.zero = some (.agg zz) := by simpa using h
   simp [zeroValue, typeInfo, hq, hz]
set_option maxRecDepth 100000 in
theorem build_any (d N : Nat) (sp : Option Addr) (n cap : Nat) (ls : List (List Int)) (w : World) (hd : d ≤ 16) (hS : HS N w sp n cap ls) (hn : n ≤ 2 ^ d) :
   Calls Tryz.prog 253 #[.int .i64 d, .slice sp n cap, .func (Fn.func 254) #[] #[]] w fun e w' => e = .returned (.agg (h8 (tr d ls))) ∧ Below w.heap.size w w' := by
 have hS := hS.here
 have hl := hS.len
 have hsm := hS.small
 have h16 := pow16 hd
 have hn16 : n ≤ 65536 := by omega
 clear h16
 have hwd := width_any d hd
 obtain ⟨p, hp⟩ : ∃ p : Nat, p = 2 ^ d := ⟨_, rfl⟩
 rw [← hp] at hwd hn
 replace hp := Hid.mk' hp
 have hz72 := zeroValue72
 have A0 := (Arr.new w 30 (h8 Z32)).alloc (.cells zz 308)
 have A1 := Arr.new (w.alloc (.cells (h8 Z32) 30)) 308 zz
 rw [World.size_alloc] at A1
 have hb0 : Below w.heap.size w ((w.alloc (.cells (h8 Z32) 30)).alloc (.cells zz 308)) := (alloc_bel' w _).alloc (by simp) _
 have L0 := lv_new A1
 have hl32 := hS.l32
 go_enter Tryz.func253, Tryz.ntmps253
 go_wp2_with fail
 go_loopw [12] (fun q wr => ∃ (j : Nat) (W : Nat → List Int), q = .int .i64 (j : Int) ∧ j ≤ n ∧ Below w.heap.size w wr ∧ w.heap.size + 2 ≤ wr.heap.size ∧ Arr wr w.heap.size 30 (h8 Z32) ∧ LV wr (w.heap.size + 1) W ∧ Hid (Wt ls j W))
   (fun q _ => n - (intOf q).toNat)
 case atStart => exact ⟨0, fun _ => Z32, rfl, by omega, hb0, by simp, A0, L0, Hid.mk' (wt_zero ls _)⟩
 case round =>
   clear A0 A1 hb0 L0 hz72
   obtain ⟨j, W, rfl, hj, hbl, hsz, R0, R1, hW⟩ := hrel
   by_cases hlt : j < n
   · have hI : (j : Int) < n := by omega
     have hSr := hS.below hbl
     obtain ⟨g, off, rfl, hgN, hR⟩ := hSr.at0 (by omega)
     obtain ⟨X, hX⟩ : ∃ X, ls[j]? = some X := ⟨ls[j]'(by rw [← hl.out]; exact hlt), List.getElem?_eq_getElem _⟩
     have hX32 := hl32 X (List.mem_of_getElem? hX)
     have hRX := hR j X hX
     have X1 := Arr.new wr 30 (h8 X)
     have R0' := R0.alloc (.cells (h8 X) 30)
     have hbX := hbl.alloc (by omega) (.cells (h8 X) 30)
     have R1' := R1.below (alloc_bel' wr (.cells (h8 X) 30)) (by omega)
     replace hX := Hid.mk' hX
     go_wp2_with (first
       | (refine ld24 (by rfl) _ (by rfl) g (off + j * 32) (by rfl) X hX32 hRX ?_)
       | (refine st24n (by rfl) _ _ (by rfl) wr wr.heap.size rfl (by rfl) X (by rfl) (by rfl) hX32 ?_)
       | (refine ld24 (by rfl) _ (by rfl) wr.heap.size 0 (by rfl) X hX32 X1.range ?_)
       | (go_at_call 254; go_must (refine (itself_any X hX32 _).mono ?_; rintro e w2 ⟨rfl, hb2⟩; have hs2 := hb2.size; simp at hs2; have S0 := R0'.below hb2 (by simp <;> omega); have S1 := R1'.below hb2 (by simp <;> omega); have hb2w := hbX.trans (hb2.mono (by simp <;> omega))))
       | (go_at_call 255; go_must (refine (put_any ls j X W (w.heap.size + 1) _ hX32 hX.out (by omega) S1 hW.out).mono ?_; rintro e w3 ⟨⟨v3, rfl⟩, w4, k, r, hb4, hk, hr, rfl, hW4⟩; have hs4 := hb4.size)))
     go_roundw
     case rel =>
       have T1 := (S1.below hb4 (by omega)).set hk hr
       exact ⟨j + 1, _, by go_num, by omega, below_setCells (hb2w.trans (hb4.mono (by omega))) (by omega) _ _, by rw [size_setCells]; omega, (S0.below hb4 (by omega)).setCellsOther (by omega) _ _, T1, Hid.mk' hW4⟩
     case measure => simp [intOf]; omega
   · obtain rfl : j = n := by omega
     have hI : ¬ (j : Int) < j := by omega
     by_cases hall : j = p
     · have hallI : ((j : Int) == p) = true := by rw [beq_iff_eq]; omega
       have hW1 : W d = tr d ls := by
         have h := hW.out
         rw [hall, hp.out] at h
         exact wt_all h
       have hRd := R1.rg d (by omega)
       have hd32 := R1.l32 d
       have hdI : (d : Int) < 17 := by omega
       have hd0 : (0 : Int) ≤ d := by omega
       replace hW1 := Hid.mk' hW1
       replace hall := Hid.mk' hall
       go_wp2_with (first
         | (go_at_call 252; go_must (refine (hwd _).mono ?_; rintro e w2 ⟨rfl, rfl⟩))
         | (refine ld24 (by rfl) _ (by rfl) (w.heap.size + 1) (d * 32) (by rfl) (W d) hd32 hRd ?_)
         | (refine st24 (by rfl) _ _ (by rfl) w.heap.size (W d) Z32 (by rfl) (by rfl) hd32 Z32_len R0 ?_))
       exact bodyPost_ret (v := .agg (h8 (W d))) (res24 Tryz.results253 rfl hd32 (R0.setRow _)) rfl ⟨by rw [hW1.out], below_setRow hbl (Nat.le_refl _) _⟩
     · have hallI : ((j : Int) == p) = false := by rw [beq_eq_false_iff_ne]; omega
       have hlt2 : j < 2 ^ d := by rw [← hp.out]; omega
       have hfill := fill_any ls W (w.heap.size + 1) d j _ hl32 hd R1 hl.out hW.out hlt2
       have ht32 := tr_len d ls hl32
       replace hlt2 := Hid.mk' hlt2
       replace hall := Hid.mk' hall
       go_wp2_with (first
         | (go_at_call 252; go_must (refine (hwd _).mono ?_; rintro e w2 ⟨rfl, rfl⟩))
         | (go_at_call 256; go_must (refine hfill.mono ?_; rintro e w3 ⟨rfl, hb3⟩; have S0 := R0.below hb3 (by omega)))
         | (refine st24 (by rfl) _ _ (by rfl) w.heap.size (tr d ls) Z32 (by rfl) (by rfl) ht32 Z32_len S0 ?_))
       exact bodyPost_ret (v := .agg (h8 (tr d ls))) (res24 Tryz.results253 rfl ht32 (S0.setRow _)) rfl ⟨rfl, below_setRow (hbl.trans (hb3.mono (by omega))) (Nat.le_refl _) _⟩
end
section
open Go.RowKit Go.Shelf
def rE (d : Int) (n : Nat) : Int := if 0 ≤ d ∧ d ≤ 16 then (if n ≤ 2 ^ d.toNat then 0 else 4) else 2
def rR (d : Int) (ls : List (List Int)) : List Int := if rE d ls.length = 0 then tr d.toNat ls else Z32
theorem rR_len {d : Int} {ls : List (List Int)} (h : ∀ x ∈ ls, x.length = 32) : (rR d ls).length = 32 := by
 unfold rR; split
 · exact tr_len _ _ h
 · exact Z32_len
set_option maxRecDepth 100000 in
theorem root_any (d : Int) (N : Nat) (sp : Option Addr) (n cap : Nat) (ls : List (List Int)) (w : World) (hS : HS N w sp n cap ls) :
   Calls Tryz.prog 251 #[.int .i64 d, .slice sp n cap] w fun e w' => e = .returned (.tuple #[.agg (h8 (rR d ls)), .int .i64 (rE d ls.length)]) ∧ Below w.heap.size w w' := by
 have A0 := Arr.new w 30 (h8 Z32)
 have hb0 := alloc_bel' w (.cells (h8 Z32) 30)
 have hS0 := hS.here.below hb0
 have hsm := hS.small
 have hln := hS.len
 have hmd := mayDepth_any d
 unfold rR rE
 by_cases h1 : 0 ≤ d ∧ d ≤ 16
 · rw [decide_eq_true h1] at hmd
   simp only [if_pos h1]
   obtain ⟨m, rfl⟩ : ∃ m : Nat, d = m := ⟨d.toNat, by omega⟩
   have hm : m ≤ 16 := by omega
   simp only [Int.toNat_natCast]
   have hwd := width_any m hm
   rw [← hln.out]
   by_cases h2 : n ≤ 2 ^ m
   · simp only [if_pos h2, if_true]
     have hbd := fun w hS => build_any m w.heap.size sp n cap ls w hm hS h2
     obtain ⟨p, hp⟩ : ∃ p : Nat, p = 2 ^ m := ⟨_, rfl⟩
     rw [← hp] at hwd h2
     have h3 : ¬ (p : Int) < n := by omega
     have ht32 := tr_len m ls hS.l32
     clear hp
     go_enter Tryz.func251, Tryz.ntmps251
     go_wp2_with (first
       | (go_at_call 248; go_must (refine (hmd _).mono ?_; rintro e w2 ⟨rfl, rfl⟩))
       | (go_at_call 252; go_must (refine (hwd _).mono ?_; rintro e w2 ⟨rfl, rfl⟩))
       | (go_at_call 253; go_must (refine (hbd _ (hS0.mono (by simp))).mono ?_; rintro e w3 ⟨rfl, hb3⟩; have S0 := A0.below hb3 (by simp)))
       | (refine st24 (by rfl) _ _ (by rfl) w.heap.size (tr m ls) Z32 (by rfl) (by rfl) ht32 Z32_len S0 ?_))
     exact bodyPost_ret (v := .tuple #[.agg (h8 (tr m ls)), .int .i64 0]) (resP Tryz.results251 rfl rfl ht32 (S0.setRow _)) rfl ⟨rfl, below_setRow (hb0.trans (hb3.mono (by simp))) (Nat.le_refl _) _⟩
   · simp only [if_neg h2]
     obtain ⟨p, hp⟩ : ∃ p : Nat, p = 2 ^ m := ⟨_, rfl⟩
     rw [← hp] at hwd h2
     have h3 : (p : Int) < n := by omega
     clear hp
     go_enter Tryz.func251, Tryz.ntmps251
     go_wp2_with (first
       | (go_at_call 248; go_must (refine (hmd _).mono ?_; rintro e w2 ⟨rfl, rfl⟩))
       | (go_at_call 252; go_must (refine (hwd _).mono ?_; rintro e w2 ⟨rfl, rfl⟩))
       | (refine st24 (by rfl) _ _ (by rfl) w.heap.size Z32 Z32 (by rfl) (by rfl) Z32_len Z32_len A0 ?_))
     exact bodyPost_ret (v := .tuple #[.agg (h8 Z32), .int .i64 4]) (resP Tryz.results251 rfl rfl Z32_len (A0.setRow _)) rfl ⟨rfl, below_setRow hb0 (Nat.le_refl _) _⟩
 · rw [decide_eq_false h1] at hmd
   simp only [if_neg h1]
   go_enter Tryz.func251, Tryz.ntmps251
   go_wp2_with (first
     | (go_at_call 248; go_must (refine (hmd _).mono ?_; rintro e w2 ⟨rfl, rfl⟩))
     | (refine st24 (by rfl) _ _ (by rfl) w.heap.size Z32 Z32 (by rfl) (by rfl) Z32_len Z32_len A0 ?_))
   exact bodyPost_ret (v := .tuple #[.agg (h8 Z32), .int .i64 2]) (resP Tryz.results251 rfl rfl Z32_len (A0.setRow _)) rfl ⟨rfl, below_setRow hb0 (Nat.le_refl _) _⟩
end
end Go.Proofs.YtagebcbnenehfaaGreat
