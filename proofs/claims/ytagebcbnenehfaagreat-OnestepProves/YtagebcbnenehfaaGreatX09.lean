/- Mi, Mj, Mk, Ub, Ud, Ue. -/
import Derived.Test.YtagebcbnenehfaaGreatX08
namespace Go.Proofs.YtagebcbnenehfaaGreat
open Go.RowKit
set_option maxRecDepth 100000
set_option linter.unusedVariables false
set_option linter.unusedSimpArgs false
set_option maxHeartbeats 40000000
section
open Go.RowKit Go.Shelf
theorem callsIn_round {l n : Nat} {f : FuncId} {args : Array Value} {w : World} {R : Ending → World → Prop} (h : Calls Tryz.prog f args w R) : CallsIn (Fence.wide.inRound l) n Tryz.prog f args w R :=
 (callsIn_wide (n := n)).2 h
theorem rowsIn_round {l n : Nat} {row : String} {args : Array Value} {w : World} {R : Value → World → Prop} (h : Rows Tryz.prog row args w R) : RowsIn (Fence.wide.inRound l) n Tryz.prog row args w R := fun c cs _ => by
 obtain ⟨v, w', r, s⟩ := h c cs
 exact ⟨v, w', r, (stepsIn_wide (P := Tryz.prog)).2 s⟩
theorem opIn {l n : Nat} {o : Oper} {a : Act} {w : World} {K : Act → World → Prop} {Q : Exit → Act → World → Prop} (hd : ∀ c, o.op ≠ .defer c) (h : o.wp Tryz.prog a w K Q) : o.wpIn (Fence.wide.inRound l) n Tryz.prog a w K Q := by
 refine ⟨fun _ _ => trivial, ?_⟩
 rw [Oper.semAt_plain _ _ _ hd]
 unfold Oper.wp at h
 generalize (execOp a.eval o).run Tryz.prog w = r at *
 cases r with
 | ok x w' =>
   cases x <;> simp only [Oper.upon, Oper.uponIn] at h ⊢ <;>
     first
       | exact h
       | exact ⟨(fun h' => by cases h'), callsIn_round h⟩
       | exact ⟨(fun h' => by cases h'), rowsIn_round h⟩
 | halt x w' => cases x <;> simp only [Oper.upon, Oper.uponIn] at h ⊢ <;> exact h
def noDefer (ops : Array Oper) : Bool := ops.all fun o => match o.op with | .defer _ => false | _ => true
theorem noDefer_get {ops : Array Oper} (h : noDefer ops = true) {i : Nat} {o : Oper} (hi : ops[i]? = some o) : ∀ c, o.op ≠ .defer c := by
 intro c hc
 have := (Array.all_eq_true_iff_forall_mem.1 h) o (Array.mem_of_getElem? hi)
 rw [hc] at this
 cases this
theorem wpOpIn_of {l n : Nat} {ops : Array Oper} (hd : noDefer ops = true) {Q : Exit → Act → World → Prop} {i : Nat} {K : Act → World → Prop} {a : Act} {w : World} (hno : ¬ LetsOut Q) (h : wpOp Tryz.prog ops Q i K a w) : wpOpIn (Fence.wide.inRound l) n Tryz.prog ops Q i K a w := by
 unfold wpOp at h
 unfold wpOpIn
 cases ho : ops[i]? with
 | none => simpa [ho] using h
 | some o =>
   simp only [ho] at h ⊢
   split
   · rename_i hw
     rw [if_pos hw] at h
     rcases h with h | h
     · exact opIn (noDefer_get hd ho) h
     · exact absurd h.2 hno
   · rename_i hw
     rw [if_neg hw] at h
     exact ⟨fun _ _ => trivial, h⟩
theorem wpAnyIn_of {l n : Nat} {ops : Array Oper} (hd : noDefer ops = true) {md : Region.Mode} {Q : Exit → Act → World → Prop} (hno : ¬ LetsOut Q) : ∀ (fuel : Nat) (listed : Array Bool) (a : Act) (w : World), wpAny Tryz.prog md ops Q fuel listed a w → wpAnyIn (Fence.wide.inRound l) n Tryz.prog md ops Q fuel listed a w
 | 0, _, _, _, h => h
 | fuel + 1, _, _, _, h => ⟨h.1, fun i hi => wpOpIn_mono (fun a' w' h' => wpAnyIn_of hd hno fuel _ a' w' h') (wpOpIn_of hd hno (h.2 i hi))⟩
def Q0 (Q : Exit → Act → World → Prop) : Exit → Act → World → Prop
 | .normal, a, w => Q .normal a w
 | _, _, _ => False
theorem region_round {l n id : Nat} {ops : Array Oper} {S : World → Prop} {Q : Exit → Act → World → Prop} {a : Act} {w : World} (hm : Tryz.prog.follows .mixedOrders = true) (hd : noDefer ops = true) (hS : S w.drew)
   (h : S w.drew → wpAnyH Tryz.prog .any ops (Q0 Q) S ops.size (Array.replicate ops.size false) a w.drew) : (Code.region id ops true).wpIn (Fence.wide.inRound l) n Tryz.prog Q a w := by
 refine wpIn_mono (Q := Q0 Q) (wpIn_region_any hm (wpAnyIn_of hd (by rintro ⟨_, _, h⟩; exact h) _ _ _ _ (wpAny_of_held _ _ _ _ (h hS)))) ?_
 intro e a w hq
 cases e <;> first | exact hq | exact hq.elim
theorem li24 {l n : Nat} {ops : Array Oper} {rest : List Oper} {o : Oper} {a : Act} {w : World} {Q : Exit → Act → World → Prop} (hgd : o.guard = none) (x : Operand) (ho : o.op = .load 30 x)
   (b off : Nat) (hx : a.eval x = .pointer (some ⟨b, off, none⟩)) (X : List Int) (hX : X.length = 32) (hc : w.rangeAt b off (by8 X))
   (h : wpListIn (Fence.wide.inRound l) n Tryz.prog ops Q rest (a.put o.dst (.agg (h8 X))) w) : wpListIn (Fence.wide.inRound l) n Tryz.prog ops Q (o :: rest) a w :=
 wpListIn_plain hgd fun _ hK => opIn (by rw [ho]; intro c hc; cases hc) (wp_load_mid 30 x ho b off hx (by8 X) _ hc Tryz.underlying30 rfl (by rw [by8_len, hX]; exact size24) (hK _ _ h))
theorem si24 {l n : Nat} {ops : Array Oper} {rest : List Oper} {o : Oper} {a : Act} {w : World} {Q : Exit → Act → World → Prop} (hgd : o.guard = none) (x y : Operand) (ho : o.op = .store 30 x y)
   (g : Nat) (X Y : List Int) (hx : a.eval x = .pointer (some ⟨g, 0, none⟩)) (hy : a.eval y = .agg (h8 X)) (hX : X.length = 32) (hY : Y.length = 32) (hg : Arr w g 30 (h8 Y))
   (h : wpListIn (Fence.wide.inRound l) n Tryz.prog ops Q rest (a.put o.dst undef) (w.setRow g (h8 X))) : wpListIn (Fence.wide.inRound l) n Tryz.prog ops Q (o :: rest) a w :=
 wpListIn_plain hgd fun _ hK => opIn (by rw [ho]; intro c hc; cases hc) (wp_store_row 30 x y ho g (h8 X) hx hy 30 _ hg (s24h8 hX) (by rw [h8_size, h8_size, hX, hY]) (h8_one X) (hK _ _ h))
theorem si24n {l n : Nat} {ops : Array Oper} {rest : List Oper} {o : Oper} {a : Act} {Q : Exit → Act → World → Prop} (hgd : o.guard = none) (x y : Operand) (ho : o.op = .store 30 x y) (W : World) (g : Nat) (hgW : W.heap.size = g) {z : Array Value} (hz : z.size = 32)
   (X : List Int) (hx : a.eval x = .pointer (some ⟨g, 0, none⟩)) (hy : a.eval y = .agg (h8 X)) (hX : X.length = 32)
   (h : wpListIn (Fence.wide.inRound l) n Tryz.prog ops Q rest (a.put o.dst undef) (W.alloc (.cells (h8 X) 30))) : wpListIn (Fence.wide.inRound l) n Tryz.prog ops Q (o :: rest) a (W.alloc (.cells z 30)) := by
 subst hgW
 exact wpListIn_plain hgd fun _ hK => opIn (by rw [ho]; intro c hc; cases hc) (wp_store_row 30 x y ho W.heap.size (h8 X) hx hy 30 z (Arr.new W 30 z) (s24h8 hX) (by rw [hz, h8_size, hX]) (h8_one X) (hK _ _ (by rw [World.setRow_alloc_new]; exact h)))
theorem opInw {n : Nat} {o : Oper} {a : Act} {w : World} {K : Act → World → Prop} {Q : Exit → Act → World → Prop} (hd : ∀ c, o.op ≠ .defer c) (h : o.wp Tryz.prog a w K Q) : o.wpIn Fence.wide n Tryz.prog a w K Q := by
 refine ⟨fun _ _ => trivial, ?_⟩
 rw [Oper.semAt_plain _ _ _ hd]
 unfold Oper.wp at h
 generalize (execOp a.eval o).run Tryz.prog w = r at *
 cases r with
 | ok x w' =>
   cases x <;> simp only [Oper.upon, Oper.uponIn] at h ⊢ <;>
     first
       | exact h
       | exact ⟨(fun h' => by cases h'), (callsIn_wide (n := n - 1)).2 h⟩
       | exact ⟨(fun h' => by cases h'), (rowsIn_round (l := 0) h : RowsIn Fence.wide _ _ _ _ _ _)⟩
 | halt x w' => cases x <;> simp only [Oper.upon, Oper.uponIn] at h ⊢ <;> exact h
theorem li24w {n : Nat} {ops : Array Oper} {rest : List Oper} {o : Oper} {a : Act} {w : World} {Q : Exit → Act → World → Prop} (hgd : o.guard = none) (x : Operand) (ho : o.op = .load 30 x)
   (b off : Nat) (hx : a.eval x = .pointer (some ⟨b, off, none⟩)) (X : List Int) (hX : X.length = 32) (hc : w.rangeAt b off (by8 X))
   (h : wpListIn Fence.wide n Tryz.prog ops Q rest (a.put o.dst (.agg (h8 X))) w) : wpListIn Fence.wide n Tryz.prog ops Q (o :: rest) a w :=
 wpListIn_plain hgd fun _ hK => opInw (by rw [ho]; intro c hc; cases hc) (wp_load_mid 30 x ho b off hx (by8 X) _ hc Tryz.underlying30 rfl (by rw [by8_len, hX]; exact size24) (hK _ _ h))
theorem si24w {n : Nat} {ops : Array Oper} {rest : List Oper} {o : Oper} {a : Act} {w : World} {Q : Exit → Act → World → Prop} (hgd : o.guard = none) (x y : Operand) (ho : o.op = .store 30 x y)
   (g : Nat) (X Y : List Int) (hx : a.eval x = .pointer (some ⟨g, 0, none⟩)) (hy : a.eval y = .agg (h8 X)) (hX : X.length = 32) (hY : Y.length = 32) (hg : Arr w g 30 (h8 Y))
   (h : wpListIn Fence.wide n Tryz.prog ops Q rest (a.put o.dst undef) (w.setRow g (h8 X))) : wpListIn Fence.wide n Tryz.prog ops Q (o :: rest) a w :=
 wpListIn_plain hgd fun _ hK => opInw (by rw [ho]; intro c hc; cases hc) (wp_store_row 30 x y ho g (h8 X) hx hy 30 _ hg (s24h8 hX) (by rw [h8_size, h8_size, hX, hY]) (h8_one X) (hK _ _ h))
theorem wp_range2 {g : Operand} {ts : Array Tmp} {assign body : Code} {Q : Exit → Act → World → Prop} {a : Act} {W0 : World} (gf : Nat) (lb : Array Value) (hg : a.eval g = .func (.func gf) #[] lb) (eg : ∀ args w, (callFunc gf args).run Tryz.prog w = .ok (.enter gf args) w)
   (I : World → Prop)
   (hcall : ∀ rc : Loop, rc.state = .ready → rc.pending = none → rc.params = ts → rc.tmps = a.tmps → rc.assign = assign → rc.body = body →
     CallsIn Fence.wide 2 Tryz.prog gf (#[.func (.yield (W0.heap.size + 1)) #[] #[]] ++ lb) ((W0.alloc (.deferred (some []))).alloc (.loop rc)) fun e W' => (∃ v, e = .returned v) ∧ I W' ∧ W'.heap[W0.heap.size + 1]? = some (.loop rc) ∧ W'.heap[W0.heap.size]? = some (.deferred (some [])))
   (hdone : ∀ W' o, I W' → W'.heap[W0.heap.size]? = some (.deferred (some [])) → Q .normal { a with defers := { target := .collected W0.heap.size, args := #[] } :: a.defers } (W'.putObj (W0.heap.size + 1) o)) :
   (Code.rangeFunc g ts assign body).wpIn Fence.wide 3 Tryz.prog Q a W0 := by
 refine wpIn_rangeFunc fun fn hfn => ?_
 have hent := run_enterLoop_outer (P := Tryz.prog) (w := W0) fn a.tmps ts assign body
 obtain ⟨rc, hrc⟩ : ∃ rc : Loop, rc = { state := .ready, pending := none, fn, tmps := a.tmps, params := ts, assign, body, defers := W0.heap.size } := ⟨_, rfl⟩
 rw [← hrc] at hent
 refine ⟨_, _, _, { target := .fn (.func gf) lb, args := #[.func (.yield (W0.heap.size + 1)) #[] #[]] }, (W0.alloc (.deferred (some []))).alloc (.loop rc), gf, #[.func (.yield (W0.heap.size + 1)) #[] #[]] ++ lb, (W0.alloc (.deferred (some []))).alloc (.loop rc), hent, ?_, fun _ _ => trivial, ?_, fun h => (by cases h), ?_⟩
 · simp only [resolve, hg]
   simp [go_sem]
 · simp [invoke, go_sem, eg]
 · refine (hcall rc (by rw [hrc]) (by rw [hrc]) (by rw [hrc]) (by rw [hrc]) (by rw [hrc]) (by rw [hrc])).mono ?_
   rintro e W2 ⟨⟨v, rfl⟩, hI, hl, hk⟩
   have hend := run_endLoop (P := Tryz.prog) hl (by rw [hrc]; simp)
   rw [show rc.pending = none by rw [hrc]] at hend
   exact ⟨none, _, hend, hdone W2 _ hI hk⟩
theorem yield_at2 {l m : Nat} {t u : Tmp} {rc : Loop} {W : World} {R : Ending → World → Prop} (x y : Value) (hl : W.heap[l]? = some (.loop rc)) (hp : rc.params = #[t, u])
   (h : rc.assign.wpIn (Fence.wide.inRound l) m Tryz.prog (Exit.then (fun a₁ w₁ => ∃ w₂, (Instr.beginRound l).run Tryz.prog w₁ = .ok () w₂ ∧ rc.body.wpIn (Fence.wide.inRound l) m Tryz.prog (roundPost Tryz.prog l R) a₁ w₂) (fun _ _ _ => False)) { tmps := (rc.tmps.setIfInBounds t x).setIfInBounds u y, defers := [] } W) :
   YieldAt Fence.wide m Tryz.prog l #[x, y] W R :=
 ⟨_, _, _, _, run_yield hl (by rw [hp]; rfl), roundIn_of_wpIn trivial (by rw [hp]; simpa using h)⟩
end
section
open Go.RowKit Go.Shelf
attribute [local go_sem] Oper.semAt_some
set_option maxRecDepth 100000 in
theorem empties_any (c : Int) (w : World) :
   Calls Tryz.prog 257 #[.int .i64 c] w fun e w' => e = .returned (.func (Fn.func 258) #[] #[.pointer (some ⟨w.heap.size, 0, none⟩)]) ∧ w' = w.alloc (.cells #[.int .i64 c] 3) := by
 have hmf : ∀ (fn : Fn) (first cap : Array Value) (w : World), (Instr.makeFunc fn first cap).run Tryz.prog w = .ok (.func fn first cap) w := fun _ _ _ _ => rfl
 go_enter Tryz.func257, Tryz.ntmps257
 go_wp2
 go_ret
 exact ⟨rfl, rfl⟩
set_option maxRecDepth 100000 in
theorem empt_in (m lp gc c S0 : Nat) (hgc : gc < S0) (J : Nat → World → Prop)
   (hJc : ∀ j W, J j W → W.cell? ⟨gc, 0, none⟩ = some (.int .i64 c) ∧ S0 ≤ W.heap.size)
   (hJB : ∀ j W W', J j W → Below S0 W W' → J j W')
   (hY : ∀ j W, J j W → j < c → YieldAt Fence.wide (m - 1) Tryz.prog lp #[.int .i64 j, .agg (h8 (tr j []))] W fun e W' => e = .returned (.bool true) ∧ J (j + 1) W' ∧ (∀ b, S0 ≤ b → b < W.heap.size → W'.heap[b]? = W.heap[b]?))
   (W : World) (h0 : J 0 W) (hc : c ≤ 17) :
   CallsIn Fence.wide m Tryz.prog 258 #[.func (.yield lp) #[] #[], .pointer (some ⟨gc, 0, none⟩)] W fun e W' => (∃ v, e = .returned v) ∧ J c W' := by
 refine callsIn_of_wp Tryz.func258 rfl trivial ?_ rfl
 simp only [Tryz.ntmps258, List.size_toArray, List.length_cons, List.length_nil, Nat.reduceAdd, Nat.reduceSub, Array.replicate_succ, Array.replicate_zero, List.push_toArray, List.append_toArray, List.nil_append, List.cons_append]
 obtain ⟨c1, hsz⟩ := hJc 0 W h0
 have c1' : (W.alloc (.cells (h8 Z32) 30)).cell? ⟨gc, 0, none⟩ = some (.int .i64 c) := by rw [World.cell?_alloc_lt _ _ _ (by show gc < _; omega)]; exact c1
 have hJ0 := hJB 0 W _ h0 ((alloc_bel' W (.cells (h8 Z32) 30)).mono hsz)
 have A0 := Arr.new W 30 (h8 Z32)
 rw [h8_Z] at c1'
 gi_wp2
 gi_loopw [6] (fun d wr => ∃ j : Nat, d = .int .i64 (j : Int) ∧ j ≤ c ∧ J j wr ∧ W.heap.size < wr.heap.size ∧ Arr wr W.heap.size 30 (h8 (tr (j - 1) []))) (fun d _ => c - (intOf d).toNat)
 case atStart => exact ⟨0, rfl, by omega, hJ0, by simp, A0⟩
 case round =>
   obtain ⟨j, rfl, hj, hJj, hlt1, R0⟩ := hrel
   clear A0 hJ0 c1' c1 h0
   have hl32 : ∀ k, (tr k []).length = 32 := fun k => tr_len k [] (fun x h => by cases h)
   obtain ⟨-, hszr⟩ := hJc j wr hJj
   by_cases hlt : j < c
   · have hI : (j : Int) < c := by omega
     by_cases hj0 : j = 0
     · subst hj0
       have R0 : Arr wr W.heap.size 30 (h8 (tr 0 [])) := R0
       obtain ⟨fn, tmps, assign, body, hy, hR⟩ := hY 0 wr hJj hlt
       simp only [Int.natCast_zero] at hy
       gi_wp2_with (refine li24w (by rfl) _ (by rfl) W.heap.size 0 (by rfl) _ (hl32 0) R0.range ?_)
       refine ⟨fun h => (by cases h), hR.mono ?_⟩
       rintro e W3 ⟨rfl, hJ3, hkeep⟩
       have R3 : Arr W3 W.heap.size 30 (h8 (tr 0 [])) := (hkeep _ hsz hlt1).trans R0
       have hl3 := R3.lt
       gi_wp2
       go_roundw
       case rel => exact ⟨1, by go_num, by omega, hJ3, hl3, R3⟩
       case measure => simp [intOf]; omega
     · have hp : (0 : Int) < j := by omega
       have hprev := hl32 (j - 1)
       have htr : pr (tr (j - 1) []) (tr (j - 1) []) = tr j [] := by
         obtain ⟨k, rfl⟩ : ∃ k, j = k + 1 := ⟨j - 1, by omega⟩
         rw [tr_nil]; rfl
       have hpair := fun w => pair_h (tr (j - 1) []) (tr (j - 1) []) w hprev hprev
       rw [htr] at hpair
       clear htr
       gi_wp2_with (first
         | (refine li24w (by rfl) _ (by rfl) W.heap.size 0 (by rfl) _ hprev R0.range ?_)
         | (refine ⟨trivial, fun h => (by cases h), ?_⟩; gi_at_call 168; go_must (refine (callsIn_wide.2 (hpair _)).mono ?_; rintro e w2 ⟨rfl, hb2⟩; have hs2 := hb2.size; have R2 := R0.below hb2 hlt1; have hJ2 := hJB j wr _ hJj (below_setRow (hb2.mono hszr) hsz (h8 (tr j []))); have R2' := R2.setRow (h8 (tr j [])); obtain ⟨fn, tmps, assign, body, hy, hR⟩ := hY j _ hJ2 hlt))
         | (refine si24w (by rfl) _ _ (by rfl) W.heap.size (tr j []) _ (by rfl) (by rfl) (hl32 j) hprev R2 ?_)
         | (refine li24w (by rfl) _ (by rfl) W.heap.size 0 (by rfl) _ (hl32 j) R2'.range ?_))
       refine ⟨fun h => (by cases h), hR.mono ?_⟩
       rintro e W3 ⟨rfl, hJ3, hkeep⟩
       have R3 : Arr W3 W.heap.size 30 (h8 (tr j [])) := (hkeep _ hsz (by simp; omega)).trans R2'
       have hl3 := R3.lt
       gi_wp2
       go_roundw
       case rel => exact ⟨j + 1, by go_num, by omega, hJ3, hl3, by rw [Nat.add_sub_cancel]; exact R3⟩
       case measure => simp [intOf]; omega
   · obtain rfl : j = c := by omega
     have hI : ¬ (j : Int) < j := by omega
     gi_wp2
     go_end0
     exact ⟨⟨_, rfl⟩, hJj⟩
end
section
open Go.RowKit Go.Shelf
attribute [local go_sem] Oper.semAt_some
theorem below_put {B : Nat} {a w : World} (h : Below B a w) {r : Nat} (hr : B ≤ r) (o : Obj) : Below B a (w.putObj r o) :=
 ⟨h.os, h.tape, h.output, by simpa using h.size, fun k hk => (World.putObj_heap_other (by omega)).trans (h.block k hk)⟩
theorem Arr.put {w : World} {g ty : Nat} {C : Array Value} (h : Arr w g ty C) {r : Nat} (o : Obj) (hne : g ≠ r) : Arr (w.putObj r o) g ty C := (World.putObj_heap_other hne).trans h
theorem range_emp {g : Operand} {t u : Tmp} {assign body : Code} {Q : Exit → Act → World → Prop} {a : Act} {W0 : World} (gc c D : Nat) (hD : W0.heap.size = D) (hc : c ≤ 17) (hg : a.eval g = .func (.func 258) #[] #[.pointer (some ⟨gc, 0, none⟩)]) (hgc : gc < D)
   (I : Nat → World → Prop) (hIB : ∀ j W W', I j W → Below D W W' → I j W') (hIc : ∀ j W, I j W → W.cell? ⟨gc, 0, none⟩ = some (.int .i64 c)) (h0 : I 0 W0)
   (hround : ∀ j W, I j W → j < c → D + 2 ≤ W.heap.size → ∀ m,
     assign.wpIn (Fence.wide.inRound (D + 1)) m Tryz.prog (Exit.then (fun a1 w1 => Below W.heap.size W w1 ∧ ∀ w2, Below (D + 1) w1 w2 → (∀ b, D + 2 ≤ b → w2.heap[b]? = w1.heap[b]?) → w2.heap.size = w1.heap.size →
       body.wpIn (Fence.wide.inRound (D + 1)) m Tryz.prog (Exit.then (fun a3 w3 => I (j + 1) w3 ∧ w2.heap.size ≤ w3.heap.size ∧ ∀ b, D ≤ b → b < w2.heap.size → w3.heap[b]? = w2.heap[b]?) (fun _ _ _ => False)) a1 w2) (fun _ _ _ => False))
       { tmps := (a.tmps.setIfInBounds t (.int .i64 j)).setIfInBounds u (.agg (h8 (tr j []))), defers := [] } W)
   (hdone : ∀ W' o, I c W' → D + 2 ≤ W'.heap.size → W'.heap[D]? = some (.deferred (some [])) → Q .normal { a with defers := { target := .collected D, args := #[] } :: a.defers } (W'.putObj (D + 1) o)) :
   (Code.rangeFunc g #[t, u] assign body).wpIn Fence.wide 3 Tryz.prog Q a W0 := by
 refine wp_range2 258 #[.pointer (some ⟨gc, 0, none⟩)] hg (enters_of Tryz.func258 (by kernel_rfl) rfl) (fun W => I c W ∧ D + 2 ≤ W.heap.size) ?_ (fun W' o h1 h2 => by rw [hD] at h2 ⊢; exact hdone W' o h1.1 h1.2 h2)
 intro rc h1 hpend h2 h3 h4 h5
 rw [hD]
 refine (empt_in 2 (D + 1) gc c (D + 2) (by omega) (fun j W => I j W ∧ W.heap[D]? = some (.deferred (some [])) ∧ W.heap[D + 1]? = some (.loop rc) ∧ D + 2 ≤ W.heap.size) ?hJc ?hJB ?hY _ ?h0 hc).mono ?fin
 case hJc => exact fun j W h => ⟨hIc j W h.1, h.2.2.2⟩
 case hJB => exact fun j W W' h hb => ⟨hIB j W W' h.1 (hb.mono (by omega)), (hb.block D (by omega)).trans h.2.1, (hb.block (D + 1) (by omega)).trans h.2.2.1, Nat.le_trans h.2.2.2 hb.size⟩
 case fin =>
   rintro e W' ⟨hv, hI, hdf, hlp, hsz⟩
   exact ⟨hv, ⟨hI, hsz⟩, hlp, hdf⟩
 case h0 =>
   have hb : Below D W0 ((W0.alloc (.deferred (some []))).alloc (.loop rc)) := by
     rw [← hD]; exact (alloc_bel' W0 _).alloc (by simp) _
   refine ⟨hIB 0 W0 _ h0 hb, ?_, ?_, by simp; omega⟩
   · rw [Below.heap_alloc _ _ _ (by simp; omega), ← hD]; exact heap_alloc_new W0 _
   · have := heap_alloc_new (W0.alloc (.deferred (some []))) (.loop rc)
     rwa [World.size_alloc, hD] at this
 case hY =>
   rintro j W ⟨hI, hdf, hlp, hsz⟩ hj
   refine yield_at2 _ _ hlp h2 ?_
   rw [h3, h4, h5]
   refine wpIn_mono (hround j W hI hj hsz _) ?_
   intro e a1 w1 hq
   cases e with
   | normal =>
     obtain ⟨hb1, hbody⟩ := hq
     have hl1 : w1.heap[D + 1]? = some (.loop rc) := (hb1.block _ (by omega)).trans hlp
     have hs1 := hb1.size
     refine ⟨_, run_beginRound hl1 h1, ?_⟩
     have hs2 : (w1.putObj (D + 1) (.loop { rc with state := .busy })).heap.size = w1.heap.size := by simp
     refine wpIn_mono (hbody _ (below_put (Below.refl _ _) (Nat.le_refl _) _) (fun b hb => World.putObj_heap_other (by omega)) hs2) ?_
     intro e a3 w3 hq3
     cases e with
     | normal =>
       obtain ⟨hI3, hs3, hk3⟩ := hq3
       rw [hs2] at hs3 hk3
       have l3 : w3.heap[D + 1]? = some (.loop { rc with state := .busy }) := (hk3 _ (by omega) (by omega)).trans (World.putObj_heap_same (by omega))
       refine ⟨_, _, run_endRound none l3, rfl, ⟨?_, ?_, ?_, ?_⟩, ?_⟩
       · exact hIB (j + 1) w3 _ hI3 (below_put (Below.refl _ _) (by omega) _)
       · rw [World.putObj_heap_other (by omega), hk3 D (Nat.le_refl _) (by omega), World.putObj_heap_other (by omega)]
         exact (hb1.block D (by omega)).trans hdf
       · rw [World.putObj_heap_same (by omega)]
         obtain ⟨st, pe, fn', tm, ps, asg, bd, df⟩ := rc
         cases h1; cases hpend
         rfl
       · simp; omega
       · intro b hb1' hb2
         rw [World.putObj_heap_other (by omega), hk3 b (by omega) (by omega), World.putObj_heap_other (by omega)]
         exact hb1.block b hb2
     | _ => exact hq3.elim
   | _ => exact hq.elim
end
def nulls (n : Nat) : Nat := (119 - n % 64) % 64
def zerosL (k : Nat) : List Int := List.replicate k 0
def lenL (n j : Nat) : List Int := (List.range j).map fun t => (n : Int) * 8 / 2 ^ (8 * (7 - t)) % 256
def padL (L : List Int) : List Int := L ++ [128] ++ zerosL (nulls L.length) ++ lenL L.length 8
theorem zerosL_len (k : Nat) : (zerosL k).length = k := by simp [zerosL]
theorem zerosL_succ (k : Nat) : zerosL k ++ [0] = zerosL (k + 1) := by simp [zerosL, List.replicate_succ']
theorem lenL_succ (n j : Nat) : lenL n j ++ [(n : Int) * 8 / 2 ^ (8 * (7 - j)) % 256] = lenL n (j + 1) := by simp [lenL, List.range_succ]
theorem nulls_mod (n : Nat) : (n + 1 + nulls n) % 64 = 56 := by unfold nulls; omega
theorem nulls_lt (n k : Nat) (h : k < nulls n) : (n + 1 + k) % 64 ≠ 56 := by unfold nulls at h; omega
theorem nulls_le (n : Nat) : nulls n ≤ 63 := by unfold nulls; omega
def vlen : Value → Nat | .slice _ l _ => l | _ => 0
set_option maxRecDepth 100000 in
theorem padded_any (sp : Option Addr) (n cap : Nat) (L : List Int) (w : World) (hn : Hid (n = L.length)) (hnil : sp = none → n = 0 ∧ cap = 0) (hS : SlL w sp L) (hb : n ≤ 140737488355000) :
   Calls Tryz.prog 62 #[.slice sp n cap] w fun e w' => ∃ v, e = .returned v ∧ w'.ownsRow w.heap.size 5 1 v (n + 1 + nulls n + 8) (by8 (padL L)) ∧ Below w.heap.size w w' := by
 have hnI : (n : Int) ≤ 140737488355000 := by omega
 have hn0 : (0 : Int) ≤ n := by omega
 have hlit : (w.alloc (.cells #[] 5)).ownsRow w.heap.size 5 1 (.slice (some ⟨w.heap.size, 0, none⟩) 0 0) 0 (by8 []) := World.ownsRow_lit _ _ _ (Nat.le_refl _) (by unfold maxLen; omega) rfl
 go_enter Tryz.func62, Tryz.ntmps62
 go_wp2_with (first
   | (at_builtin; refine append_bytes (by rfl) (.tmp 6) (.tmp 7) (by rfl) w.heap.size _ 0 [] (by rfl) hlit sp n cap L (by rfl) hn.out hnil (Sl.alloc hS _) (by omega) (by simp) ?_; intro v1 w1 hown1 hg1; have hs1 : w.heap.size ≤ w1.heap.size := (by have := hg1.size; simp at this; omega))
   | (at_builtin; refine append_bytes (by rfl) (.tmp 8) (.tmp 9) (by rfl) w.heap.size _ n ([] ++ L) (by rfl) ((show w1.ownsRow w.heap.size 5 1 v1 n (by8 ([] ++ L)) from (by simpa using hown1)).alloc _) (some ⟨w1.heap.size, 0, none⟩) 1 1 [128] (by rfl) (by rfl) (fun h => by cases h) (Arr.sl (Arr.new w1 5 _)) (by omega) (by simp; omega) ?_; intro v2 w2 hown2 hg2))
 have hs2 : w.heap.size ≤ w2.heap.size := by have := hg2.size; simp at this; omega
 have hB2 : Below w.heap.size w w2 := ((((Below.refl _ _).alloc (Nat.le_refl _) _).grown hg1 (by simp) (fun k e => by simp [Value.ownBlock] at e; omega)).alloc hs1 _).grown hg2 (by simp; omega) (fun k e => own_ge hown1 k e)
 have hown2 : w2.ownsRow w.heap.size 5 1 v2 (n + 1) (by8 (L ++ [128])) := by simpa using hown2
 clear hown1 hg1 hg2 hs1 hlit hS
 obtain ⟨g2, cap2, rfl, -, hc2, -⟩ := own_slice hown2 (by omega)
 go_loopw [3] (fun v wr => ∃ (k g c : Nat), k ≤ nulls n ∧ v = .slice (some ⟨g, 0, none⟩) (n + 1 + k) c ∧ wr.ownsRow w.heap.size 5 1 v (n + 1 + k) (by8 (L ++ [128] ++ zerosL k)) ∧ Below w.heap.size w wr)
   (fun v _ => n + 1 + nulls n - vlen v)
 case atStart => exact ⟨0, g2, cap2, by omega, rfl, by simpa [zerosL] using hown2, hB2⟩
 case round =>
   clear hown2 hB2 hs2
   obtain ⟨k, g, c, hk, rfl, hown, hbl⟩ := hrel
   have hkI : (k : Int) ≤ 63 := by have := nulls_le n; omega
   have hN := nulls_le n
   by_cases hlt : k < nulls n
   · have hm : ¬ ((n : Int) + 1 + k) % 64 = 56 := by have := nulls_lt n k hlt; omega
     have hm' : (((n : Int) + 1 + k) % 64 == 56) = false := by simpa using hm
     go_wp2_with (at_builtin; go_must (refine append_bytes (by rfl) (.tmp 15) (.tmp 16) (by rfl) w.heap.size _ (n + 1 + k) (L ++ [128] ++ zerosL k) (by rfl) (hown.alloc _) (some ⟨wr.heap.size, 0, none⟩) 1 1 [0] (by rfl) (by rfl) (fun h => by cases h) (Arr.sl (Arr.new wr 5 _)) (by omega) (by have := hbl.size; simp; omega) ?_; intro v3 w3 hown3 hg3))
     have hs3 : w.heap.size ≤ wr.heap.size := hbl.size
     have hB3 : Below w.heap.size w w3 := (hbl.alloc hs3 _).grown hg3 (by simp; omega) (fun k e => own_ge hown k e)
     obtain ⟨g3, c3, rfl, -, hc3, -⟩ := own_slice hown3 (by omega)
     go_roundw
     case rel => exact ⟨k + 1, g3, c3, by omega, by rw [Nat.add_assoc (n + 1) k 1], by rw [← zerosL_succ, ← List.append_assoc, ← Nat.add_assoc]; exact hown3, hB3⟩
     case measure => simp only [vlen]; omega
   · obtain rfl : k = nulls n := by omega
     have hm : ((n : Int) + 1 + nulls n) % 64 = 56 := by have := nulls_mod n; omega
     go_wp2
     obtain ⟨wo, rfl⟩ : ∃ wo : World, wo = wr := ⟨_, rfl⟩
     go_loopw [3, 5] (fun v i wr => ∃ (j g c : Nat), j ≤ 8 ∧ i = .int .i64 (7 - (j : Int)) ∧ v = .slice (some ⟨g, 0, none⟩) (n + 1 + nulls n + j) c ∧ wr.ownsRow w.heap.size 5 1 v (n + 1 + nulls n + j) (by8 (L ++ [128] ++ zerosL (nulls n) ++ lenL n j)) ∧ Below w.heap.size w wr)
       (fun v _ _ => n + 1 + nulls n + 8 - vlen v)
     case atStart => exact ⟨0, g, c, by omega, rfl, rfl, by simpa [lenL] using hown, hbl⟩
     case round =>
       clear hown hbl hm
       obtain ⟨j, g, c, hj, rfl, rfl, hown, hbl⟩ := hrel
       have hjI : (j : Int) ≤ 8 := by omega
       have hj0 : (0 : Int) ≤ j := by omega
       by_cases hlt : j < 8
       · have h7 : (0 : Int) ≤ 7 - (j : Int) := by omega
         have e8 : (8 * (7 - (j : Int))).toNat = 8 * (7 - j) := by omega
         go_wp2_with (at_builtin; go_must (refine append_bytes (by rfl) (.tmp 26) (.tmp 33) (by rfl) w.heap.size _ (n + 1 + nulls n + j) (L ++ [128] ++ zerosL (nulls n) ++ lenL n j) (by rfl) (hown.alloc _) (some ⟨wr.heap.size, 0, none⟩) 1 1 [(n : Int) * 8 / 2 ^ (8 * (7 - j)) % 256] (by rfl) (by rfl) (fun h => by cases h) (Arr.sl (Arr.new wr 5 _)) (by omega) (by have := hbl.size; simp; omega) ?_; intro v3 w3 hown3 hg3))
         have hs3 : w.heap.size ≤ wr.heap.size := hbl.size
         have hB3 : Below w.heap.size w w3 := (hbl.alloc hs3 _).grown hg3 (by simp; omega) (fun k e => own_ge hown k e)
         obtain ⟨g3, c3, rfl, -, hc3, -⟩ := own_slice hown3 (by omega)
         go_wp2
         go_roundw
         case rel => exact ⟨j + 1, g3, c3, by omega, by go_num, by rw [Nat.add_assoc (n + 1 + nulls n) j 1], by rw [← lenL_succ, ← List.append_assoc, ← Nat.add_assoc]; exact hown3, hB3⟩
         case measure => simp only [vlen]; omega
       · obtain rfl : j = 8 := by omega
         go_wp2
         go_ret
         refine ⟨_, rfl, ?_, hbl⟩
         have := hn.out
         unfold padL
         rw [← this]
         exact hown
theorem word_congr {B B' : Nat → Int} (h : ∀ t, t < 64 → B t = B' t) {t : Nat} (ht : t < 16) : word B t = word B' t := by
 unfold word
 rw [h (4 * t) (by omega), h (4 * t + 1) (by omega), h (4 * t + 2) (by omega), h (4 * t + 3) (by omega)]
theorem wsn_congr {B B' : Nat → Int} (h : ∀ t, t < 64 → B t = B' t) (k : Nat) : wsn B k = wsn B' k := by
 induction k with
 | zero =>
   unfold wsn
   refine List.map_congr_left fun t ht => word_congr h ?_
   simpa using ht
 | succ k ih => rw [wsn, wsn, ih]
theorem WW_congr {B B' : Nat → Int} (h : ∀ t, t < 64 → B t = B' t) : WW B = WW B' := by
 funext t; unfold WW; rw [wsn_congr h]
theorem absorbN_congr {K B B' : Nat → Int} (s : St) (m : Nat) (h : ∀ t, t < 64 * m → B t = B' t) : absorbN K B s m = absorbN K B' s m := by
 induction m with
 | zero => rfl
 | succ m ih =>
   rw [absorbN, absorbN, ih (fun t ht => h t (by omega)), WW_congr (B := fun t => B (64 * m + t)) (B' := fun t => B' (64 * m + t)) (fun t ht => h _ (by omega))]
theorem absorbN_add (K B : Nat → Int) (s : St) (m j : Nat) : absorbN K B s (m + j) = absorbN K (fun t => B (64 * m + t)) (absorbN K B s m) j := by
 induction j with
 | zero => rfl
 | succ j ih =>
   rw [← Nat.add_assoc, absorbN, absorbN, ih]
   have : (fun t => B (64 * (m + j) + t)) = fun t => B (64 * m + (64 * j + t)) := by funext t; congr 1; omega
   rw [this]
theorem bat_app (A M : List Int) (t : Nat) : bat (A ++ M) t = if t < A.length then bat A t else bat M (t - A.length) := by
 simp only [bat, List.getD_eq_getElem?_getD]
 by_cases h : t < A.length
 · rw [if_pos h, List.getElem?_append_left h]
 · rw [if_neg h, List.getElem?_append_right (by omega)]
theorem bat_zeros (k t : Nat) : bat (zerosL k) t = 0 := by
 simp only [bat, zerosL, List.getD_eq_getElem?_getD]
 by_cases h : t < k
 · simp [h]
 · simp [h]
theorem bat_len {n j t : Nat} (h : t < j) : bat (lenL n j) t = (n : Int) * 8 / 2 ^ (8 * (7 - t)) % 256 := by
 simp only [bat, lenL, List.getD_eq_getElem?_getD, List.getElem?_map, List.getElem?_range h]; rfl
theorem bat_pad (L : List Int) (t : Nat) (ht : t < L.length + 1 + nulls L.length + 8) :
   bat (padL L) t = if t < L.length then bat L t else if t = L.length then 128 else if t < L.length + 1 + nulls L.length then 0 else (L.length : Int) * 8 / 2 ^ (8 * (7 - (t - (L.length + 1 + nulls L.length)))) % 256 := by
 unfold padL
 rw [bat_app, bat_app, bat_app]
 simp only [List.length_append, zerosL_len, List.length_singleton]
 by_cases h1 : t < L.length
 · rw [if_pos (by omega), if_pos (by omega), if_pos h1, if_pos h1]
 · rw [if_neg h1]
   by_cases h2 : t = L.length
   · rw [if_pos (by omega), if_pos (by omega), if_neg h1, if_pos h2, h2, Nat.sub_self]; rfl
   · rw [if_neg h2]
     by_cases h3 : t < L.length + 1 + nulls L.length
     · rw [if_pos h3, if_neg (by omega), if_pos h3, bat_zeros, if_neg h1]
     · rw [if_neg h3, if_neg h3, bat_len (by omega), if_neg h1]
def lastQ (r : Nat) : Nat := if 55 < r then 2 else 1
theorem pad_blocks (n : Nat) : n + 1 + nulls n + 8 = 64 * (n / 64 + lastQ (n % 64)) := by
 unfold nulls lastQ
 by_cases h : 55 < n % 64
 · rw [if_pos h]; omega
 · rw [if_neg h]; omega
theorem pad_block (L : List Int) (t : Nat) (ht : t < 64 * lastQ (L.length % 64)) :
   bat (padL L) (64 * (L.length / 64) + t) = padB (fun t => bat L (64 * (L.length / 64) + t)) (64 * ((L.length / 64 : Nat) : Int) + ((L.length % 64 : Nat) : Int)) (L.length % 64) (64 * lastQ (L.length % 64)) t := by
 have hp := pad_blocks L.length
 have hq : lastQ (L.length % 64) = 1 ∨ lastQ (L.length % 64) = 2 := by unfold lastQ; by_cases h : 55 < L.length % 64 <;> simp [h]
 have hnn : ((L.length : Nat) : Int) = 64 * ((L.length / 64 : Nat) : Int) + ((L.length % 64 : Nat) : Int) := by omega
 rw [bat_pad L _ (by omega), ← hnn]
 unfold padB baseB lenB
 by_cases h1 : t < L.length % 64
 · rw [if_pos (by omega), if_pos (by omega), if_pos h1]
 · rw [if_neg (by omega)]
   by_cases h2 : t = L.length % 64
   · rw [if_pos (by omega), if_pos (by omega), if_neg h1, if_pos h2]
   · rw [if_neg (by omega)]
     by_cases h3 : t < 64 * lastQ (L.length % 64) - 8
     · rw [if_pos (by omega), if_pos h3, if_neg h1, if_neg h2]
     · rw [if_neg (by omega), if_neg h3]
       congr 3
       omega
theorem absorb_pad (L : List Int) : absorbN kOf (bat (padL L)) h0St (L.length / 64 + lastQ (L.length % 64)) = shaSt (bat L) (L.length / 64) (L.length % 64) := by
 rw [absorbN_add, absorbN_congr (B := bat (padL L)) (B' := bat L) h0St (L.length / 64) (fun t ht => ?_)]
 · rw [absorbN_congr _ _ (pad_block L)]
   unfold shaSt lastQ
   by_cases h : 55 < L.length % 64
   · simp only [if_pos h]
   · simp only [if_neg h]
 · rw [bat_pad L t (by omega), if_pos (by omega)]
theorem padded_blocks (sp : Option Addr) (n cap M : Nat) (L : List Int) (w : World) (hn : Hid (n = L.length)) (hM : Hid (n + 1 + nulls n + 8 = 64 * M)) (hnil : sp = none → n = 0 ∧ cap = 0) (hS : SlL w sp L) (hb : n ≤ 140737488355000) :
   Calls Tryz.prog 62 #[.slice sp n cap] w fun e w' => ∃ g c, e = .returned (.slice (some ⟨g, 0, none⟩) (64 * M) c) ∧ 64 * M ≤ c ∧ w.heap.size ≤ g ∧ Bytes w' g 0 (64 * M) (bat (padL L)) ∧ Below w.heap.size w w' := by
 refine (padded_any sp n cap L w hn hnil hS hb).mono ?_
 rintro e w' ⟨v, rfl, hown, hb'⟩
 obtain ⟨g, c, rfl, hn3, hc3, hgg, hBy, -⟩ := own_slice hown (by omega)
 have := hM.out
 have h3 := hn3.out
 rw [← h3, this] at hBy
 rw [this] at hc3 ⊢
 exact ⟨g, c, rfl, hc3, hgg, hBy, hb'⟩
theorem Bytes.setRowOther {w : World} {b off n k : Nat} {B : Nat → Int} (h : Bytes w b off n B) (D : Array Value) (hk : b ≠ k) : Bytes (w.setRow k D) b off n B := fun t ht => by
 rw [World.cell?_of_block (w := w) (a := ⟨b, off + t, none⟩) (setRow_other w k b D hk)]; exact h t ht
set_option maxRecDepth 100000 in
theorem refSum_any (sp : Option Addr) (n cap : Nat) (L : List Int) (w : World) (hn : n = L.length) (hnil : sp = none → n = 0 ∧ cap = 0) (hS : SlL w sp L) (hb : n ≤ 140737488355000) :
   Calls Tryz.prog 23 #[.slice sp n cap] w fun e w' => e = .returned (.agg (sha L)) ∧ Below w.heap.size w w' := by
 obtain ⟨M, hM0⟩ : ∃ M, M = n / 64 + lastQ (n % 64) := ⟨_, rfl⟩
 have hM : Hid (n + 1 + nulls n + 8 = 64 * M) := by show _ = _; rw [hM0]; exact pad_blocks n
 have hMb : 64 * M ≤ 140737488355072 := by have := hM.out; have := nulls_le n; omega
 have hMI : 64 * (M : Int) ≤ 140737488355072 := by omega
 have hfin : Hid (absorbN kOf (bat (padL L)) h0St M = shaSt (bat L) (n / 64) (n % 64)) := by show _ = _; rw [hM0, hn]; exact absorb_pad L
 have HN := Hid.mk' hn
 clear hn hM0
 go_enter Tryz.func23, Tryz.ntmps23
 go_upto_region 3 with (first
   | (refine wpList_store_new (w.alloc _) _ 133 (by rfl) 133 (.tmp 3) (.tmp 8) (by rfl) h0St.cells (by rfl) (by rfl) (s48 _) (by rfl) (St.one _) ?_)
   | (go_at_call 62; go_must (refine (padded_blocks sp n cap M L _ HN hM hnil (Sl.alloc (Sl.alloc hS _) _) hb).mono ?_; rintro e w3 ⟨g, c, rfl, hc3, hgg, hBy, hb3⟩)))
 have hA3 : Arr w3 (w.heap.size + 1) 133 h0St.cells := (show Arr ((w.alloc _).alloc (.cells h0St.cells 133)) (w.heap.size + 1) 133 h0St.cells from by simpa using Arr.new (w.alloc _) 133 h0St.cells).below hb3 (by simp)
 have hZ3 : ∃ Z : Array Value, Z.size = 32 ∧ Arr w3 w.heap.size 30 Z := ⟨_, by rfl, ((Arr.new w 30 _).alloc _).below hb3 (by simp; omega)⟩
 obtain ⟨Z, hZs, hZ3⟩ := hZ3
 have hB3 : Below w.heap.size w w3 := (((Below.refl _ _).alloc (Nat.le_refl _) _).alloc (by simp) _).trans (hb3.mono (by simp; omega))
 have hgg : w.heap.size + 2 ≤ g := by simpa using hgg
 clear hb3 hS
 generalize bat (padL L) = Bf at *
 go_wp2_with fail
 go_loopw [5] (fun i wr => ∃ j : Nat, j ≤ M ∧ i = .int .i64 (64 * (j : Int)) ∧ Arr wr (w.heap.size + 1) 133 (absorbN kOf Bf h0St j).cells ∧ Arr wr w.heap.size 30 Z ∧ Bytes wr g 0 (64 * M) Bf ∧ Below w.heap.size w wr)
   (fun i _ => 64 * M - (intOf i).toNat)
 case atStart => exact ⟨0, by omega, rfl, hA3, hZ3, hBy, hB3⟩
 case round =>
   clear hA3 hZ3 hBy hB3
   obtain ⟨j, hj, rfl, hA, hZ, hBy, hbl⟩ := hrel
   have h4 : (0 : Int) ≤ j := by omega
   by_cases hlt : j < M
   · have h5 : (j : Int) + 1 ≤ M := by omega
     have hcI : 64 * (M : Int) ≤ c := by omega
     have hcj : 64 * (j : Int) + 64 ≤ c := by omega
     have hl : 64 * j + 64 - 64 * j = 64 := by omega
     have hcond : 64 * (j : Int) < 64 * (M : Int) := by omega
     have i1 : IntKind.i64.wrap (64 * (j : Int) + 64) = 64 * (j : Int) + 64 := by simp [IntKind.wrap, IntKind.bits, IntKind.signed]; omega
     have p0 : 0 ≤ 64 * (j : Int) := by omega
     have p1 : 0 ≤ 64 * (j : Int) + 64 := by omega
     have p2 : 64 * (j : Int) ≤ 64 * (j : Int) + 64 := by omega
     have p3 : 64 * (j : Int) < c := by omega
     have p4 : 64 * j < c := by omega
     have p5 : ¬ c = 64 * j := by omega
     have t0 : (64 * (j : Int)).toNat = 64 * j := by omega
     have t1 : (64 * (j : Int) + 64).toNat = 64 * j + 64 := by omega
     have hB' : Bytes wr.drew g (64 * j) 64 (fun t => Bf (64 * j + t)) := fun t ht => by
       have := hBy (64 * j + t) (by omega)
       rw [Nat.zero_add] at this; exact this
     obtain ⟨sj, hsj⟩ : ∃ sj, sj = absorbN kOf Bf h0St j := ⟨_, rfl⟩
     obtain ⟨sn, hsn⟩ : ∃ sn, sn = absorbN kOf Bf h0St (j + 1) := ⟨_, rfl⟩
     have hcall : ∀ (u : World) (cap : Nat), Bytes u g (64 * j) 64 (fun t => Bf (64 * j + t)) → Calls Tryz.prog 63 #[.agg sj.cells, .slice (some ⟨g, 64 * j, none⟩) 64 cap] u fun e w' => e = .returned (.agg sn.cells) ∧ Below u.heap.size u w' := fun u cap h => by
       have := refBlock_any sj g (64 * j) cap (fun t => Bf (64 * j + t)) u h
       rw [hsn, absorbN, ← hsj]; exact this
     have Hsn := Hid.mk' hsn
     rw [← hsj] at hA
     clear hsj hsn
     go_upto_region 6 with fail
     obtain ⟨c0, c1, c2, c3, c4, c5, c6, c7⟩ := hA.cells8
     go_region_with (first
       | (go_at_call 63; go_must (refine (hcall wr.drew _ hB').mono ?_; rintro e w4 ⟨rfl, hb4⟩; have hA5 := hA.drew.below hb4 hA.lt; have hst := hA5.store8 sn)))
     all_goals
       clear c0 c1 c2 c3 c4 c5 c6 c7 hst
       go_wp2_with fail
       go_roundw
       case rel => exact ⟨j + 1, by omega, by go_num, by rw [← Hsn.out]; exact hA5.setRow _, (hZ.drew.below hb4 hZ.lt).setRowOther _ (by omega), Bytes.setRowOther (Bytes.below (w := wr.drew) hBy hb4) _ (by omega), below_setRow (hbl.drew.trans (hb4.mono hbl.size)) (by omega) _⟩
       case measure => simp [intOf]; omega
   · obtain rfl : j = M := by omega
     clear hBy
     rw [hfin.out] at hA
     obtain ⟨S, hS⟩ : ∃ S, S = shaSt (bat L) (n / 64) (n % 64) := ⟨_, rfl⟩
     rw [← hS] at hA
     have hsha : Hid (u8s 32 (outB S) = sha L) := by show _ = _; rw [hS, HN.out]; rfl
     clear hS
     obtain ⟨wo, rfl⟩ : ∃ wo : World, wo = wr := ⟨_, rfl⟩
     go_wp2_with fail
     have hs1 : w.heap.size + 1 < wo.heap.size := hA.lt
     go_loopw [7] (fun i wr => ∃ (k : Nat) (C : Array Value), k ≤ 32 ∧ i = .int .i64 k ∧ Arr wr (w.heap.size + 1) 133 S.cells ∧ Arr wr w.heap.size 30 Z ∧ Arr wr wo.heap.size 30 C ∧ C.size = 32 ∧ (∀ t, t < k → C[t]? = some (.int .u8 (outB S t))) ∧ Below w.heap.size w wr)
       (fun i _ => 32 - (intOf i).toNat)
     case atStart => exact ⟨0, _, by omega, rfl, hA.alloc _, hZ.alloc _, Arr.new _ _ _, rfl, fun t h => by omega, hbl.alloc hbl.size _⟩
     case round =>
       clear hA hZ hbl
       generalize wo.heap.size = g6 at *
       obtain ⟨k, C, hk, rfl, hA, hZ, hC, hCs, hw, hbl⟩ := hrel
       have HW := Hid.mk' hw
       clear hw
       by_cases hlt : k < 32
       · have h3 : (k : Int) < 32 := by omega
         have h4 : (0 : Int) ≤ k := by omega
         have c0 : wr.cell? ⟨w.heap.size + 1, k / 4, none⟩ = some (.int .u32 (S.at (k / 4))) := (hA.cell _).trans (St.get S (by omega))
         obtain ⟨v1, c1⟩ := hC.got (j := k) (by omega)
         have f0 := hC.frozen k
         go_wp2
         go_roundw
         case rel =>
           have q := set_step (f := fun t => .int .u8 (outB S t)) hCs (by omega) HW.out
           exact ⟨k + 1, _, by omega, by go_num, hA.setOther _ (by simp; omega), hZ.setOther _ (by simp; omega), hC.set _ _, by simp [hCs], q, hbl.setCell (by simp; omega) _⟩
         case measure => simp [intOf]; omega
       · obtain rfl : k = 32 := by omega
         have hCe : C = u8s 32 (outB S) := arr_eq hCs HW.out
         rw [hsha.out] at hCe
         subst hCe
         go_wp2_with (first
           | (refine wpList_load_row (by rfl) 30 (.tmp 6) (by rfl) g6 (by rfl) 30 (sha L) (0, 0) _ hC Tryz.underlying30 rfl (s24sha _) ?_)
           | (refine wpList_store_arr (by rfl) 30 (.tmp 2) (.tmp 41) (by rfl) w.heap.size (sha L) (by rfl) (by rfl) 30 _ hZ (s24sha _) (by rw [hZs]; exact (sha_size _).symm) (sha_one _) ?_))
         exact bodyPost_ret (v := .agg (sha L)) (results_cell_row Tryz.results23 _ _ w.heap.size 30 _ (0, 0) _ rfl (hZ.setRow _) Tryz.underlying30 rfl (s24sha _)) rfl ⟨rfl, below_setRow hbl (Nat.le_refl _) _⟩
end Go.Proofs.YtagebcbnenehfaaGreat
