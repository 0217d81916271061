/- Nv, Nw0, NkR. -/
import Derived.Test.YtbhhbkoikocjgaaX36
import Derived.Test.YtbhhbkoikocjgaaX26
import Derived.Test.YtbhhbkoikocjgaaX17
import Derived.Test.YtbhhbkoikocjgaaX32
import Derived.Test.YtbhhbkoikocjgaaX24
/- Layer spec: the law SpecAll. -/
namespace Go.Proofs.Ytbhhbkoikocjgaa
set_option linter.unusedSectionVars false
set_option maxHeartbeats 1000000
open Go.RowKit Go.Shelf
set_option maxRecDepth 100000
set_option linter.unusedVariables false
set_option linter.unusedSimpArgs false
variable [DecidableEq Ac] [DecidableEq Ou] [DecidableEq Mg]
attribute [local go_sem] Oper.semAt_some


theorem none40 (n : Nat) (y : Value) (u : World) : CallsIn Fence.wide n Try.prog 40 #[y] u fun r w' => (∃ v, r = .returned v) ∧ Below u.heap.size u w' := by
  refine callsIn_of_wp_marks Try.func40 rfl trivial ?_ rfl
  simp only [Try.ntmps40, List.size_toArray, List.length_cons, List.length_nil, Nat.reduceAdd, Nat.reduceSub, Array.replicate_succ, Array.replicate_zero, List.push_toArray, List.append_toArray, List.nil_append, List.cons_append]
  gi_wp2
  exact ⟨_, results_none rfl _ _ _, ⟨_, rfl⟩, Below.refl _ _⟩
theorem wp_range0 {k : Nat} {g : Operand} {ts : Array Tmp} {assign body : Code} {Q : Exit → Act → World → Prop} {a : Act} {W0 : World} (D : Nat) (hD : W0.heap.size = D) (hg : a.eval g = .func (.func 40) #[] #[])
    (hend : ∀ W', Below D W0 W' → D + 2 ≤ W'.heap.size → W'.heap[D]? = some (.deferred (some [])) → Q .normal { a with defers := { target := .collected D, args := #[] } :: a.defers } W') : (Code.rangeFunc g ts assign body).wpIn Fence.wide k Try.prog Q a W0 := by
  subst hD
  refine wp_rangeY 40 #[] hg (enters_of (P := Try.prog) Try.func40 (by kernel_rfl) rfl) (fun W => Below W0.heap.size W0 W ∧ W0.heap.size + 2 ≤ W.heap.size) (fun _ _ => False) ?_ (fun W' o h1 h2 => hend _ (bel_put h1.1 (by omega) _) (by simpa using h1.2) ((World.putObj_heap_other (by omega)).trans h2)) (fun c W' o h _ => h.elim)
  intro rc h1 hpend h2 h3 h4 h5
  refine (none40 (k - 1) _ _).mono ?_
  rintro e W' ⟨hv, hb⟩
  have hb0 : Below W0.heap.size W0 ((W0.alloc (.deferred (some []))).alloc (.loop rc)) := (alloc_bel' W0 _).alloc (by simp) _
  have hz := hb.size
  simp only [World.size_alloc] at hz
  refine ⟨hv, (hb.block _ (by simp; omega)).trans ?_, .inl ⟨⟨hb0.trans (hb.mono (by simp; omega)), by omega⟩, (hb.block _ (by simp)).trans ?_⟩⟩
  · rw [Below.heap_alloc _ _ _ (by simp)]; exact heap_alloc_new W0 _
  · have := heap_alloc_new (W0.alloc (.deferred (some []))) (.loop rc)
    rwa [World.size_alloc] at this
set_option maxHeartbeats 8000000 in
theorem all_not (ps : List Ac) (sp : Option Addr) (n cap : Nat) (os : List Ou) (sl : Option Addr) (nl cl : Nat) (es : List Bz) (mm : Nat) (w : World) (hS : SS w.heap.size w ps sp n cap os) (hL : BL w.heap.size w sl nl cl es) (hmm : mm < 256) (hm : may ps n = false) :
    Calls Try.prog 5 #[.agg (stA ps sp n cap), .slice sl nl cl, .int .u8 (mm : Int)] w fun e w' => e = .returned (.bool true) ∧ Below w.heap.size w w' := by
  have h1 := hS.a32.out
  have h2 := hS.l32
  have hok := hS.ok
  have hnn := hS.outs.len
  have hns := hS.outs.small
  have hsq := stA_size (sp := sp) (n := n) (cap := cap) h1 h2
  have hrok := rnA_ok (Ls := bzs es) h1 hok.out hS.outs.ok hL.bts
  have hsm := hL.small
  have hnlI : (nl : Int) ≤ 9223372036854775000 := by omega
  have hmmI : (mm : Int) < 256 := by omega
  have hnl0 : (0 : Int) ≤ nl := by omega
  have hmm0 : (0 : Int) ≤ mm := by omega
  obtain ⟨wv, hwv⟩ : ∃ wv : Int, (if nl < mm then (nl : Int) else (mm : Int)) = wv := ⟨_, rfl⟩
  have hwv0 : 0 ≤ wv ∧ wv ≤ 255 := by subst hwv; split <;> omega
  have hz30 := zeroValue30N
  have hzs := zsize30
  generalize zero30N = Z at hz30 hzs
  have hAll := Hid.mk' (fun u (hb : Below w.heap.size w u) => all_no ps w.heap.size sp n cap os sl nl cl u (hS.below hb) hm)
  have hmay := fun u => refMay_any ps sp n cap u h1 hok.out hns
  rw [hm] at hmay
  refine (callsIn_wide (n := 9)).1 ?_
  refine callsIn_of_wp_marks Try.func5 rfl trivial ?_ rfl
  simp only [Try.ntmps5, List.size_toArray, List.length_cons, List.length_nil, Nat.reduceAdd, Nat.reduceSub, Array.replicate_succ, Array.replicate_zero, List.push_toArray, List.append_toArray, List.nil_append, List.cons_append]
  have hV0 : VI w (stA ps sp n cap) sl nl cl mm ((((w.alloc (.cells (stA ps sp n cap) 30)).alloc (.cells #[.slice sl nl cl] 31)).alloc (.cells #[.int .u8 (mm : Int)] 5)).alloc (.cells #[.bool false] 4)) := by
    refine ⟨(((alloc_bel' w _).alloc (by simp) _).alloc (by simp; omega) _).alloc (by simp; omega) _, (((Arr.new w 30 _).alloc _).alloc _).alloc _, ?_, ?_, ?_⟩
    · have h := Arr.new (w.alloc (.cells (stA ps sp n cap) 30)) 31 #[.slice sl nl cl]
      simp only [World.size_alloc] at h
      exact (h.alloc _).alloc _
    · have h := Arr.new ((w.alloc (.cells (stA ps sp n cap) 30)).alloc (.cells #[.slice sl nl cl] 31)) 5 #[.int .u8 (mm : Int)]
      simp only [World.size_alloc] at h
      exact h.alloc _
    · have h := Arr.new (((w.alloc (.cells (stA ps sp n cap) 30)).alloc (.cells #[.slice sl nl cl] 31)).alloc (.cells #[.int .u8 (mm : Int)] 5)) 4 #[.bool false]
      simp only [World.size_alloc] at h
      exact h
  have hsV : w.heap.size + 4 ≤ ((((w.alloc (.cells (stA ps sp n cap) 30)).alloc (.cells #[.slice sl nl cl] 31)).alloc (.cells #[.int .u8 (mm : Int)] 5)).alloc (.cells #[.bool false] 4)).heap.size := by simp
  have hnf := run_fnil
  gi_wp2_with (first
    | (refine atLi 30 (.tmp 3) ?_; refine ldBw (by rfl) 30 1089 _ (by rfl) w.heap.size 30 (by rfl) (stA ps sp n cap) hsq hV2.a0 Try.underlying30 rfl size30N ?_)
    | (refine atLi 30 (.tmp 3) ?_; refine ldBwg (by rfl) 30 1089 _ (by rfl) w.heap.size 30 (by rfl) (stA ps sp n cap) hsq hV1.a0 Try.underlying30 rfl size30N ?_)
    | (refine ⟨trivial, ?_⟩; gi_at_call 15; go_must (refine (callsIn_wide.2 (anchored_any _)).mono ?_; rintro r w1 ⟨rfl, hb1⟩; have hV1 := hV0.keep hb1 hsV; have hz1 := hb1.size; have c41 := hV1.a1.cell 0; simp at c41))
    | (refine ⟨trivial, ?_⟩; gi_at_call 18; have htok := hV2; go_must (refine (callsIn_wide.2 (hAll.out _ hV2.bel)).mono ?_; rintro r w3 ⟨rfl, hb3⟩))
    | (refine ⟨trivial, ?_⟩; gi_at_call 18; have htok := hV1; go_must (refine (callsIn_wide.2 (hAll.out _ hV1.bel)).mono ?_; rintro r w2 ⟨rfl, hb2⟩; have hV2 := hV1.keep hb2 (Nat.le_trans hsV hz1); have hz2 := hb2.size; clear c41; have c42 := hV2.a1.cell 0; simp at c42)))
  have hz3 := hb3.size
  have hV3 := hV2.keep hb3 (by omega)
  have hwA : w.heap.size + 4 ≤ w3.heap.size := by omega
  clear hV0 hV1 hV2 hb1 hb2 hb3 hAll c42 htok hsV hz1 hz2 hz3
  have V1a := hV3
  refine wpIn_loop_rounds 3 ?_
  rw [roundsIn_succ]
  gi_wp2
  have V1b := V1a.keep (alloc_bel' w3 (.cells #[.int .i64 0] 3)) (by omega)
  have A1b := Arr.new w3 3 #[.int .i64 0]
  have hs1 : (w3.alloc (.cells #[.int .i64 0] 3)).heap.size = w3.heap.size + 1 := by simp
  refine wp_range0 (w3.heap.size + 1) hs1 rfl ?_
  intro X1 bX1 zX1 dX1
  have V1c := V1b.keep bX1 (by omega)
  have A1c := A1b.below bX1 (by omega)
  have c4 := V1c.a1.cell 0
  have c5 := V1c.a2.cell 0
  simp at c4 c5
  gi_wp2_with (first
    | (refine atLi 30 (.tmp 3) ?_; refine ldBw (by rfl) 30 1089 _ (by rfl) w.heap.size 30 (by rfl) (stA ps sp n cap) hsq V1c.a0 Try.underlying30 rfl size30N ?_)
    | (refine ⟨trivial, ?_⟩; gi_at_call 19; go_must (refine (callsIn_wide.2 (hmay _)).mono ?_; rintro r y1 ⟨rfl, hby1⟩; have hzy1 := hby1.size; have c9 := (A1c.below hby1 (by omega)).cell 0; simp at c9)))
  have V2a := V1c.keep hby1 (by omega)
  have d1 : y1.heap[w3.heap.size + 1]? = some (.deferred (some [])) := (hby1.block _ (by omega)).trans dX1
  clear c4 c5 c9 A1b A1c V1b V1c
  rw [roundsIn_succ]
  gi_wp2
  have V2b := V2a.keep (alloc_bel' y1 (.cells #[.int .i64 0] 3)) (by omega)
  have A2b := Arr.new y1 3 #[.int .i64 0]
  have hs2 : (y1.alloc (.cells #[.int .i64 0] 3)).heap.size = y1.heap.size + 1 := by simp
  refine wp_range0 (y1.heap.size + 1) hs2 rfl ?_
  intro X2 bX2 zX2 dX2
  have V2c := V2b.keep bX2 (by omega)
  have A2c := A2b.below bX2 (by omega)
  have c4 := V2c.a1.cell 0
  have c5 := V2c.a2.cell 0
  simp at c4 c5
  gi_wp2_with (first
    | (refine atLi 30 (.tmp 3) ?_; refine ldBw (by rfl) 30 1089 _ (by rfl) w.heap.size 30 (by rfl) (stA ps sp n cap) hsq V2c.a0 Try.underlying30 rfl size30N ?_)
    | (refine ⟨trivial, ?_⟩; gi_at_call 19; go_must (refine (callsIn_wide.2 (hmay _)).mono ?_; rintro r y2 ⟨rfl, hby2⟩; have hzy2 := hby2.size; have c9 := (A2c.below hby2 (by omega)).cell 0; simp at c9)))
  have V3a := V2c.keep hby2 (by omega)
  have d2 : y2.heap[y1.heap.size + 1]? = some (.deferred (some [])) := (hby2.block _ (by omega)).trans dX2
  clear c4 c5 c9 A2b A2c V2b V2c
  rw [roundsIn_succ]
  gi_wp2_with (refine ⟨trivial, ?_⟩; gi_at_call 15; go_must (refine (callsIn_wide.2 (anchored_any _)).mono ?_; rintro r z ⟨rfl, hz⟩; have hzz := hz.size; have c3 := (V3a.a3.below hz (by omega)).cell 0; have f3 := (V3a.a3.below hz (by omega)).frozen 0; simp at c3))
  have b1 : y2.heap[w3.heap.size + 1]? = some (.deferred (some [])) := (hby2.block _ (by omega)).trans ((bX2.block _ (by omega)).trans (((alloc_bel' y1 (.cells #[.int .i64 0] 3)).block _ (by omega)).trans d1))
  have hz6 := V3a.bel.trans (hz.mono (by have := V3a.bel.size; omega))
  have hR0 := (V3a.a3.below hz (by omega)).set 0 (.bool true)
  have hR1 := (hR0.putO (r := y1.heap.size + 1) (.deferred none) (by omega)).putO (r := w3.heap.size + 1) (.deferred none) (by omega)
  refine ⟨by simp, .inl ⟨_, _, rfl, run_takeDeferred ((Below.heap_setCell _ _ _ _ (by show y1.heap.size + 1 ≠ w.heap.size + 1 + 1 + 1; omega)).trans ((hz.block _ (by omega)).trans d2)), ?_⟩⟩
  refine ⟨by simp, .inl ⟨_, _, rfl, run_takeDeferred ((World.putObj_heap_other (by omega)).trans ((Below.heap_setCell _ _ _ _ (by show w3.heap.size + 1 ≠ w.heap.size + 1 + 1 + 1; omega)).trans ((hz.block _ (by omega)).trans b1))), ?_⟩⟩
  exact ⟨_, resB (by rfl) hR1, rfl, bel_put (bel_put (hz6.setCell (p := ⟨w.heap.size + 1 + 1 + 1, 0, none⟩) (by show w.heap.size ≤ w.heap.size + 1 + 1 + 1; omega) _) (by omega) _) (by omega) _⟩

theorem all_walk (ps : List Ac) (sp : Option Addr) (n cap : Nat) (os : List Ou) (sl : Option Addr) (nl cl : Nat) (es : List Bz) (m : Int) (w : World) (hS : SS w.heap.size w ps sp n cap os) (hL : BL w.heap.size w sl nl cl es) (hm0 : 0 ≤ m ∧ m < 256) :
    Calls Try.prog 5 #[.agg (stA ps sp n cap), .slice sl nl cl, .int .u8 m] w fun e w' => e = .returned (.bool true) ∧ Below w.heap.size w w' := by
  obtain ⟨mm, rfl⟩ := Int.eq_ofNat_of_zero_le hm0.1
  have hmm : mm < 256 := by omega
  cases hm : may ps n
  · exact all_not ps sp n cap os sl nl cl es mm w hS hL hmm hm
  · exact all_may ps sp n cap os sl nl cl es mm w hS hL hmm hm
end Go.Proofs.Ytbhhbkoikocjgaa
/- Layer spec: what the law SpecFresh wants. -/
namespace Go.Proofs.Ytbhhbkoikocjgaa
set_option linter.unusedSectionVars false
set_option maxHeartbeats 1000000
open Go.RowKit Go.Shelf
set_option maxRecDepth 100000
set_option linter.unusedVariables false
set_option linter.unusedSimpArgs false
variable [DecidableEq Ac] [DecidableEq Ou] [DecidableEq Mg]
attribute [local go_sem] Oper.semAt_some


theorem copy01F_any (sp : Option Addr) (n cap : Nat) (L : List Int) (N : Nat) (w : World) (hS : BS N w sp n cap L) :
    Calls Try.prog 22 #[.slice sp n cap] w fun e w' => ∃ s c, e = .returned (.slice s n c) ∧ BS w'.heap.size w' s n c L ∧ (∀ b off, s = some ⟨b, off, none⟩ → w.heap.size ≤ b) ∧ Below w.heap.size w w' := by
  have hn := hS.len
  have hsm := hS.small
  have hni := hS.nil
  have hbt := hS.bts
  have hlit : (w.alloc (.cells #[] 5)).ownsRow w.heap.size 5 1 (.slice (some ⟨w.heap.size, 0, none⟩) 0 0) 0 (by8 []) := World.ownsRow_lit _ _ _ (Nat.le_refl _) (by unfold maxLen; omega) rfl
  have hS' := (hS.here.below ((Below.refl _ _).alloc (Nat.le_refl _) (.cells #[] 5))).sl
  go_enter Try.func22, Try.ntmps22
  go_wp2_with (at_builtin; go_must (refine append_bytes (by rfl) (.tmp 3) (.tmp 4) (by rfl) w.heap.size _ 0 [] (by rfl) hlit sp n cap L (by rfl) hn.out hni hS' (by omega) (by simp) ?_; intro v1 w1 hown1 hg1))
  go_ret
  rw [Nat.zero_add, List.nil_append] at hown1
  obtain ⟨s, c, rfl, hB, hfr⟩ := own_bs hown1 hbt hsm
  exact ⟨s, c, rfl, hB, (fun b off h => (hfr b off h).1), ((Below.refl _ _).alloc (Nat.le_refl _) _).grown hg1 (by simp) (fun k e => by simp [Value.ownBlock] at e; omega)⟩
theorem same01_self (sp sp' : Option Addr) (n n' cap cap' : Nat) (L : List Int) (N N' : Nat) (w : World) (hS : BS N w sp n cap L) (hS' : BS N' w sp' n' cap' L) : Calls Try.prog 23 #[.slice sp n cap, .slice sp' n' cap'] w fun e w' => e = .returned (.bool true) ∧ w' = w := by
  have h := same01_any sp sp' n n' cap cap' L L N N' w hS hS'
  rw [decide_eq_true rfl] at h
  exact h
theorem own_thereO {w : World} {base n cap : Nat} {sp : Option Addr} {xs : List Value} (h : w.ownsRow base 66 2 (.slice sp n cap) n xs) (h0 : 0 < n) : ∃ g, sp = some ⟨g, 0, none⟩ ∧ base ≤ g ∧ g < w.heap.size ∧ w.there g 0 (n * 2) := by
  obtain ⟨-, h | ⟨g, cap', cur, e, hg, hh, hnc, hcm, hc, ht⟩⟩ := h
  · have := h.2; omega
  · cases e
    refine ⟨g, rfl, hg, (Array.getElem?_eq_some_iff.1 hh).1, fun j hj => ⟨?_, ?_⟩⟩
    · rw [Nat.zero_add, cell_of_row w g _ cur 66 (0, 0) hh, Array.getElem?_eq_getElem (by have := Nat.mul_le_mul_right 2 hnc; omega)]
      rfl
    · simp [World.frozen?, hh]
theorem built98 : Try.prog.built 66 [(0, .int .u64 98)] = some (Ou.arr ⟨98, 0⟩) := by kernel_rfl
theorem built97 : Try.prog.built 66 [(0, .int .u64 97)] = some (Ou.arr ⟨97, 0⟩) := by kernel_rfl
theorem there_block {w w' : World} {g o k : Nat} (h : w.there g o k) (hb : w'.heap[g]? = w.heap[g]?) : w'.there g o k := fun j hj => by
  have h := h j hj
  have hc := (World.cell?_of_block (w := w) (a := ⟨g, o + j, none⟩) hb)
  have hf : w'.frozen? ⟨g, o + j, none⟩ = w.frozen? ⟨g, o + j, none⟩ := by simp only [World.frozen?, hb]
  exact ⟨by rw [hc]; exact h.1, by rw [hf]; exact h.2⟩
theorem bdTi {l n : Nat} {ops : Array Oper} {rest : List Oper} {o : Oper} {a : Act} {w : World} {Q : Exit → Act → World → Prop} (hg : o.guard = none) (t : TypeId) (parts : Array (Nat × Operand)) (ho : o.op = .build t parts) {ps : List (Nat × Value)} (hp : parts.toList.map (fun p => (p.1, a.eval p.2)) = ps) {C : Array Value} (hb : Try.prog.built t ps = some C)
    (h : wpListIn (Fence.wide.inRound l) n Try.prog ops Q rest (a.put o.dst (.agg C)) w) : wpListIn (Fence.wide.inRound l) n Try.prog ops Q (o :: rest) a w :=
  wpListIn_plain hg fun _ hK => opIn (by rw [ho]; intro c hc; cases hc) (wp_bdT t parts ho hp hb (hK _ _ h))
theorem stMi {l n : Nat} {ops : Array Oper} {rest : List Oper} {op : Oper} {a : Act} {w : World} {Q : Exit → Act → World → Prop} (hgd : op.guard = none) (ty : TypeId) (x y : Operand) (ho : op.op = .store ty x y)
    (b o : Nat) (cells : Array Value) (hx : a.eval x = .pointer (some ⟨b, o, none⟩)) (hy : a.eval y = .agg cells)
    (ht : w.there b o cells.size) (hi : (Try.prog.info? ty).map (·.size) = some cells.size) (h1 : cells.all (·.oneCell') = true)
    (h : wpListIn (Fence.wide.inRound l) n Try.prog ops Q rest (a.put op.dst undef) (w.setCells b o cells.toList)) : wpListIn (Fence.wide.inRound l) n Try.prog ops Q (op :: rest) a w :=
  wpListIn_plain hgd fun _ hK => opIn (by rw [ho]; intro c hc; cases hc) (wp_store_mid ty x y ho b o cells hx hy ht hi h1 (hK _ _ h))
theorem atBi {P : Program} {F : Fence} {n : Nat} {ops : Array Oper} {rest : List Oper} {a : Act} {w : World} {Q : Exit → Act → World → Prop} (t : TypeId) {d} {ps} {ty} {pos} {af} {g} (h : wpListIn F n P ops Q (⟨d, .build t ps, ty, pos, af, g⟩ :: rest) a w) : wpListIn F n P ops Q (⟨d, .build t ps, ty, pos, af, g⟩ :: rest) a w := h
/-- What All answers, whether the state may be or not. -/
def AllGood (ps : List Ac) (n : Nat) (os : List Ou) (nl : Nat) (es : List Bz) (f : Nat) (lb : Array Value) (w' : World) : Prop :=
  (f = 40 ∧ lb = #[]) ∨ (∃ bm bf s0 c0 sm cm fs, f = 42 ∧ lb = #[.pointer (some ⟨bm, 0, none⟩), .pointer (some ⟨bf, 0, none⟩)] ∧ n ≤ 33 ∧ Arr w' bf 30 (stA ps s0 n c0) ∧ Arr w' bm 31 #[.slice sm nl cm] ∧ SS w'.heap.size w' ps s0 n c0 os ∧ bzs fs = bzs es ∧ BL w'.heap.size w' sm nl cm fs)
theorem all_any (ps : List Ac) (N : Nat) (sp : Option Addr) (n cap : Nat) (os : List Ou) (sl : Option Addr) (nl cl Nl : Nat) (es : List Bz) (w : World) (hS : SS N w ps sp n cap os) (hL : BL Nl w sl nl cl es) (hNl : Nl ≤ w.heap.size) :
    Calls Try.prog 18 #[.agg (stA ps sp n cap), .slice sl nl cl] w fun r w' => ∃ f lb, r = .returned (.func (Fn.func f) #[] lb) ∧ AllGood ps n os nl es f lb w' ∧ Below w.heap.size w w' := by
  cases hm : may ps n
  · refine (all_no ps N sp n cap os sl nl cl w hS hm).mono ?_
    rintro r w' ⟨rfl, hb⟩
    exact ⟨40, #[], rfl, .inl ⟨rfl, rfl⟩, hb⟩
  · have hn : n ≤ 32 := ((may_sum hS.ok.out).1 hm).2
    refine (all_yes ps N sp n cap os sl nl cl Nl es w hS hL hNl hm).mono ?_
    rintro r w' ⟨bm, bf, s0, c0, sm, cm, fs, rfl, h1, h2, h3, h4, h5, hb⟩
    exact ⟨42, _, rfl, .inr ⟨bm, bf, s0, c0, sm, cm, fs, rfl, rfl, by omega, h1, h2, h3, h4, h5⟩, hb⟩
/-- The range over what All answers, whose rounds leave the memory below as it is. -/
theorem range_all {k : Nat} {g : Operand} {t u : Tmp} {assign body : Code} {Q : Exit → Act → World → Prop} {a : Act} {W0 : World} (D : Nat) (hD : W0.heap.size = D) (ps : List Ac) (n : Nat) (os : List Ou) (nl : Nat) (es : List Bz) (f : Nat) (lb : Array Value) (hA : AllGood ps n os nl es f lb W0) (hg : a.eval g = .func (.func f) #[] lb) (hrok : ∀ j, RnOK (rnA ps os (bzs es) j))
    (hround : ∀ j C W, Below D W0 W → TA (D + 2) ps os (bzs es) j C W → D + 2 ≤ W.heap.size → ∀ m,
      assign.wpIn (Fence.wide.inRound (D + 1)) m Try.prog (Exit.then (fun a1 w1 => Below W.heap.size W w1 ∧ ∀ w2, Below (D + 1) w1 w2 → (∀ b, D + 2 ≤ b → w2.heap[b]? = w1.heap[b]?) → w2.heap.size = w1.heap.size → Below D W0 w2 → TA (D + 2) ps os (bzs es) j C w2 →
        body.wpIn (Fence.wide.inRound (D + 1)) m Try.prog (RoundEnds (fun w3 => Below D W0 w3) (fun _ _ => False) (fun w3 => w2.heap.size ≤ w3.heap.size ∧ ∀ b, D ≤ b → b < W.heap.size → ¬ RA C b → w3.heap[b]? = w2.heap[b]?)) a1 w2) (fun _ _ _ => False))
        { tmps := (a.tmps.setIfInBounds t (.int .i64 (j : Int))).setIfInBounds u (.agg C), defers := [] } W)
    (hend : ∀ W', Below D W0 W' → D + 2 ≤ W'.heap.size → W'.heap[D]? = some (.deferred (some [])) → Q .normal { a with defers := { target := .collected D, args := #[] } :: a.defers } W') :
    (Code.rangeFunc g #[t, u] assign body).wpIn Fence.wide k Try.prog Q a W0 := by
  rcases hA with ⟨rfl, rfl⟩ | ⟨bm, bf, s0, c0, sm, cm, fs, rfl, rfl, hn, h1, h2, h3, hbz, h5⟩
  · exact wp_range0 D hD hg hend
  · have hbm := h2.lt
    have hbf := h1.lt
    rw [hD] at h3 h5 hbm hbf
    have hM : MA bm bf D ps s0 n c0 os sm nl cm fs W0 := ⟨h1, h2, h3, h5⟩
    have hRn : ∀ j, RnOK (rnA ps os (bzs fs) j) := by rw [hbz]; exact hrok
    have ht := all42_in bm bf D (D + 2) ps s0 n c0 os sm nl cm fs hbm hbf (by omega) hRn hn
    rw [hbz] at ht
    refine range_tellW 42 _ D hD hg (enters_of (P := Try.prog) Try.func42 (by kernel_rfl) rfl) nl (MA bm bf D ps s0 n c0 os sm nl cm fs) (TA (D + 2) ps os (bzs es)) RA ht (staysA _ _ _ _ _) (fun j C W b hT hR => TA_RA (hrok j) hT hR) (fun j C U => Below D W0 U) (fun _ _ => False) (fun j C U h => hM.keep h (Nat.le_refl _) hbm hbf) (fun j C U U' h hb => h.trans hb) (fun _ _ _ h _ => h.elim) #[] (Below.refl _ _) (fun j Cp C W hI hj hT hs m => hround j C W hI hT hs m) ?_ (fun _ _ _ h _ _ => h.elim)
    intro C W' o hI hs hdf
    exact hend _ (bel_put hI (by omega) _) (by simpa using hs) ((World.putObj_heap_other (by omega)).trans hdf)
end Go.Proofs.Ytbhhbkoikocjgaa
/- Layer spec: Run. -/
namespace Go.Proofs.Ytbhhbkoikocjgaa
set_option linter.unusedSectionVars false
set_option maxHeartbeats 1000000
open Go.RowKit Go.Shelf
set_option maxRecDepth 100000
set_option linter.unusedVariables false
set_option linter.unusedSimpArgs false


variable [DecidableEq Ac] [DecidableEq Ou] [DecidableEq Mg]
set_option maxHeartbeats 2000000 in
theorem run_any (ps : List Ac) (N : Nat) (sp : Option Addr) (n cap : Nat) (os : List Ou) (sl : Option Addr) (nl cl Nl : Nat) (es : List Bz) (w : World) (hS : SS N w ps sp n cap os) (hL : BL Nl w sl nl cl es) (hNl : Nl ≤ w.heap.size) :
    Calls Try.prog 8 #[.agg (stA ps sp n cap), .slice sl nl cl] w (RunPost (yR ps os (bzs es) nl) (xE ps os) w) := by
  have hL := hL.mono hNl
  have hS := hS.here
  have h1 := hS.a32.out
  have h2 := hS.l32
  have hok := hS.ok
  have hnn := hS.outs.len
  have hns := hS.outs.small
  have A0 := (Arr.new w 30 (stA ps sp n cap)).alloc (.cells (stA zs none 0 0) 30)
  have R0 : Arr ((w.alloc (.cells (stA ps sp n cap) 30)).alloc (.cells (stA zs none 0 0) 30)) (w.heap.size + 1) 30 (stA zs none 0 0) := by simpa using Arr.new (w.alloc (.cells (stA ps sp n cap) 30)) 30 (stA zs none 0 0)
  have B0 := (alloc_bel' w (.cells (stA ps sp n cap) 30)).alloc (by simp) (.cells (stA zs none 0 0) 30)
  have hz30 := zeroValue30
  have hzsz : (stA zs none 0 0).size = 1089 := stA_size zs_len zs_l32
  have hbz := built30z
  have hsz0 : (Try.prog.info? 30).map (·.size) = some (stA zs none 0 0).size := by rw [hzsz]; exact size30
  have hone := stA_one zs none 0 0
  cases hm : may ps n with
  | false =>
    have hm' : may ps os.length = false := by rw [← hnn.out]; exact hm
    have hmay := fun u => may_any ps sp n cap u h1 hok.out hns
    rw [hm] at hmay
    generalize hZe : stA zs none 0 0 = Z at A0 R0 B0 hz30 hzsz hbz hsz0 hone
    go_enter Try.func8, Try.ntmps8
    go_upto_region 1 with fail
    generalize (w.alloc (.cells (stA ps sp n cap) 30)).alloc (.cells Z 30) = V at A0 R0 B0 ⊢
    go_wp2_with (first
      | (refine atL 30 (.tmp 2) ?_; refine ld30 (by rfl) _ (by rfl) w.heap.size 30 (by rfl) ps sp n cap h1 h2 A0 ?_)
      | (go_at_call 24; go_must (refine (hmay _).mono ?_; rintro r w1 ⟨rfl, hb1⟩; have R1 := R0.below hb1 R0.lt; have B1 := B0.trans (hb1.mono B0.size)))
      | (refine atB 30 ?_; refine bdT (by rfl) 30 #[] (by rfl) (by rfl) hbz ?_)
      | (refine atS 30 (.tmp 4) (.tmp 11) ?_; refine wpList_store_arr (by rfl) 30 (.tmp 4) (.tmp 11) (by rfl) (w.heap.size + 1) Z (by rfl) (by rfl) 30 _ R1 hsz0 rfl hone ?_))
    subst hZe
    exact bodyPost_ret (resD Try.results8 rfl rfl rfl zs_len zs_l32 (R1.setRow _)) rfl (RunPost.no hm' (below_setRow B1 (by omega) _))
  | true =>
    have hm' : may ps os.length = true := by rw [← hnn.out]; exact hm
    have hn32 : n ≤ 32 := (may_sum hok.out).1 hm |>.2
    have hmay := fun u => may_any ps sp n cap u h1 hok.out hns
    rw [hm] at hmay
    have hrok := rnA_ok (Ls := bzs es) h1 hok.out hS.outs.ok hL.bts
    rw [yR_yes hm', xE_yes hm']
    clear hbz hsz0 hone
    generalize stA zs none 0 0 = Z at A0 R0 B0 hz30 hzsz
    have hz69 := zeroValue69N
    have hzs69 := zsize69
    generalize zero69N = Z9 at hz69 hzs69
    have hrD := rnA_D (ps := ps) (os := os) (Ls := bzs es) nl (by rw [bzs_len, hL.len.out]; exact Nat.le_refl _)
    go_enter Try.func8, Try.ntmps8
    go_upto_region 1 with fail
    generalize (w.alloc (.cells (stA ps sp n cap) 30)).alloc (.cells Z 30) = V at A0 R0 B0 ⊢
    go_upto_region 3 with (first
      | (refine atL 30 (.tmp 2) ?_; refine ld30 (by rfl) _ (by rfl) w.heap.size 30 (by rfl) ps sp n cap h1 h2 A0 ?_)
      | (go_at_call 24; go_must (refine (hmay _).mono ?_; rintro r w1 ⟨rfl, hb1⟩)))
    have A1 := A0.below hb1 A0.lt
    have R1 := R0.below hb1 R0.lt
    have B1 := B0.trans (hb1.mono B0.size)
    have hV := B0.size
    have hz1 := hb1.size
    have hown := own_any ps w.heap.size sp n cap os w1 (hS.below B1) (by omega)
    clear A0 R0 B0 hb1
    go_upto_region 4 with (first
      | (refine atL 30 (.tmp 2) ?_; refine ld30 (by rfl) _ (by rfl) w.heap.size 30 (by rfl) ps sp n cap h1 h2 A1 ?_)
      | (go_at_call 27; go_must (refine hown.mono ?_; rintro r w2 ⟨s2, c2, rfl, own2, hb2⟩; have hb69 := built69a (ps := ps) (sp := s2) (n := n) (cap := c2) h1 h2; have S2 : SS w2.heap.size w2 ps s2 n c2 os := ⟨hS.a32, hS.ok, os_own own2 hnn.out hns hS.outs.ok⟩; have B2 := B1.trans (hb2.mono B1.size); have hfin := finC ps s2 n c2 os sl nl cl es w2 S2 ((hL.below B2).mono B2.size)))
      | (refine atB 69 ?_; refine bdT (by rfl) 69 #[(0, .tmp 14)] (by rfl) (by rfl) hb69 ?_)
      | (go_at_call 26; go_must (refine (fold26_any sl nl cl (crA ps s2 n c2 (.slice none 0 0)) w2).mono ?_; rintro r w3 ⟨rfl, rfl⟩))
      | (go_at_call 25; go_must (refine hfin.mono ?_; rintro r w4 ⟨C4, rfl, hT4, hb4⟩; obtain ⟨s4, n4, c4, sd, cd, rfl, hR4, hD4⟩ := hT4))
      | (refine atS 69 (.tmp 7) (.tmp 17) ?_; refine stBn (by rfl) 69 1090 _ _ (by rfl) w4 w4.heap.size 69 rfl (crA (rnA ps os (bzs es) nl).P s4 n4 c4 (.slice sd nl cd)) (by rfl) (by rfl) (crA_size (hrok nl).a32 (fun a ha => ((hrok nl).ok a ha).l32)) (crA_one _ _ _ _ _ _ _) hzs69 size69N ?_))
    have hz2 := hb2.size
    have hz4 := hb4.size
    have own4 := own_same own2 (fun b hb => hb4.block b (own_lt own2 hb))
    have hq1 := (hrok nl).a32
    have hq2 : ∀ a ∈ (rnA ps os (bzs es) nl).P, a.lk.length = 32 := fun a ha => ((hrok nl).ok a ha).l32
    have R4 := (R1.below hb2 (by have := R1.lt; omega)).below hb4 (by have := R1.lt; omega)
    have hR1lt := R1.lt
    have B4 := B2.trans (hb4.mono B2.size)
    have bb := alloc_bel' w4 (.cells (crA (rnA ps os (bzs es) nl).P s4 n4 c4 (.slice sd nl cd)) 69)
    have A5 := (Arr.new w4 69 (crA (rnA ps os (bzs es) nl).P s4 n4 c4 (.slice sd nl cd))).drew
    have R5 := (R4.alloc (.cells (crA (rnA ps os (bzs es) nl).P s4 n4 c4 (.slice sd nl cd)) 69)).drew
    have B5 := (B4.alloc B4.size (.cells (crA (rnA ps os (bzs es) nl).P s4 n4 c4 (.slice sd nl cd)) 69)).drew
    have own5 := (own4.alloc (.cells (crA (rnA ps os (bzs es) nl).P s4 n4 c4 (.slice sd nl cd)) 69)).drew
    have hD5 := (hD4.alloc (.cells (crA (rnA ps os (bzs es) nl).P s4 n4 c4 (.slice sd nl cd)) 69)).drew
    have hR5 := hR4.same (W' := (w4.alloc (.cells (crA (rnA ps os (bzs es) nl).P s4 n4 c4 (.slice sd nl cd)) 69)).drew) (fun b _ hb => bb.drew.block b hb)
    have hrn := hrok nl
    clear bb hb4 hb2 hR4 hD4 own4 R4 B4 R1 A1 own2 hfin hown S2 B2 hb69
    generalize hre : rnA ps os (bzs es) nl = R at *
    replace hre := Hid.mk' hre
    refine wp_region_held_drew (S := fun u => Arr u w4.heap.size 69 (crA R.P s4 n4 c4 (.slice sd nl cd))) (by kernel_rfl) A5 (fun hHeld => ?_)
    generalize (w4.alloc (.cells (crA R.P s4 n4 c4 (.slice sd nl cd)) 69)).drew = W5 at *
    have hg4 : w2.heap.size ≤ w4.heap.size := hz4
    generalize w4.heap.size = G4 at *
    refine wpAnyH_take (i := 0) (oi := ⟨_, _, _, _, _, _⟩) (v := ?_) rfl (by kernel_rfl) (by kernel_rfl) (by kernel_rfl) (fun _ _ _ h => h) (Or.inl ⟨by rfl, ?_⟩) (by assumption) ?_
    rotate_left
    · intro u hSw
      go_simp
      try (with_reducible rfl)
    try simp only [Act.put, List.setIfInBounds_toArray, List.set_cons_zero, List.set_cons_succ]
    refine wpAnyH_take (i := 1) (oi := ⟨_, _, _, _, _, _⟩) rfl (by kernel_rfl) (by kernel_rfl) (by kernel_rfl) (fun _ _ _ h => h) (yieldsIf_load_mid (by rfl) 30 (.tmp 18) rfl G4 0 rfl (stC R.P s4 n4 c4) _ (fun u hu => hu.crS) Try.underlying30 rfl (by rw [stC_len hq1 hq2]; exact size30)) (by assumption) ?_
    try simp only [Act.put, List.setIfInBounds_toArray, List.set_cons_zero, List.set_cons_succ]
    refine wpAnyH_take (i := 2) (oi := ⟨_, _, _, _, _, _⟩) (v := ?_) rfl (by kernel_rfl) (by kernel_rfl) (by kernel_rfl) (fun _ _ _ h => h) (Or.inl ⟨by rfl, ?_⟩) (by assumption) ?_
    rotate_left
    · intro u hSw
      go_simp
      try (with_reducible rfl)
    try simp only [Act.put, List.setIfInBounds_toArray, List.set_cons_zero, List.set_cons_succ]
    refine wpAnyH_take (i := 3) (oi := ⟨_, _, _, _, _, _⟩) (v := ?_) rfl (by kernel_rfl) (by kernel_rfl) (by kernel_rfl) (fun _ _ _ h => h) (Or.inl ⟨by rfl, ?_⟩) (by assumption) ?_
    rotate_left
    · intro u hSw
      have cc := Arr.crD hSw hq1 hq2
      go_simp
      try (with_reducible rfl)
    try simp only [Act.put, List.setIfInBounds_toArray, List.set_cons_zero, List.set_cons_succ]
    refine wpAnyH_ready (rs := [4]) (by kernel_rfl) (by simp) ?_
    refine AllReadyH.cons (o := ⟨_, _, _, _, _, _⟩) rfl (fun K hK => ?_) AllReadyH.nil
    refine step_want rfl (wp_store_row 30 (.tmp 4) (.tmp 19) rfl (w.heap.size + 1) (stA R.P s4 n4 c4) rfl rfl 30 _ R5 (by rw [stA_size hq1 hq2]; exact size30) (by rw [hzsz, stA_size hq1 hq2]) (stA_one _ _ _ _) ?_)
    refine hK.out _ _ (A5.setRowOther _ (by omega)) (fun hHeld => ?_)
    clear hK K
    try simp only [Act.put, List.setIfInBounds_toArray, List.set_cons_zero, List.set_cons_succ]
    refine wpAnyH_take (i := 5) (oi := ⟨_, _, _, _, _, _⟩) (v := ?_) rfl (by kernel_rfl) (by kernel_rfl) (by kernel_rfl) (fun _ _ _ h => h) (Or.inl ⟨by rfl, ?_⟩) (by assumption) ?_
    rotate_left
    · intro u hSw
      go_simp
      try (with_reducible rfl)
    try simp only [Act.put, List.setIfInBounds_toArray, List.set_cons_zero, List.set_cons_succ]
    refine wpAnyH_take (i := 6) (oi := ⟨_, _, _, _, _, _⟩) (v := ?_) rfl (by kernel_rfl) (by kernel_rfl) (by kernel_rfl) (fun _ _ _ h => h) (Or.inl ⟨by rfl, ?_⟩) (by assumption) ?_
    rotate_left
    · intro u hSw
      go_simp
      try (with_reducible rfl)
    try simp only [Act.put, List.setIfInBounds_toArray, List.set_cons_zero, List.set_cons_succ]
    refine wpAnyH_done (by kernel_rfl) ?_ _
    go_wp2_with fail
    have R6 := R5.setRow (stA R.P s4 n4 c4)
    have hk6 : ∀ b, w2.heap.size ≤ b → b < W5.heap.size → (W5.setRow (w.heap.size + 1) (stA R.P s4 n4 c4)).heap[b]? = W5.heap[b]? := fun b hb _ => setRow_other _ _ _ _ (by omega)
    have hR6 := hR5.same hk6
    have own6 := own_same own5 (w' := W5.setRow (w.heap.size + 1) (stA R.P s4 n4 c4)) (fun b hb => setRow_other _ _ _ _ (by have := own_ge own5 b hb; omega))
    have hD6 := own_keep hD5 hk6
    have hre0 := hre.out
    clear hre
    subst hre0
    have hst := SR.st (w := w) hR6 (by omega) hnn.out (by omega) (own_mono own6 (by omega)) hrn
    refine bodyPost_ret (resD Try.results8 rfl rfl rfl hq1 hq2 R6) rfl ⟨s4, n4, c4, sd, nl, cd, rfl, hst, Hid.mk' hrD.symm, own_mono hD6 (by omega), below_setRow B5 (by omega) _⟩
end Go.Proofs.Ytbhhbkoikocjgaa
