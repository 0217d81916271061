/- V19, V20, V21. -/
import Derived.Test.YtbfelelngoonjaaX40
import Derived.Test.YtbfelelngoonjaaX42
import Derived.Test.YtbfelelngoonjaaX44
import Derived.Test.YtbfelelngoonjaaX33
/- Layer oracle: both oracles side by side. -/
namespace Go.Proofs.Ytbfelelngoonjaa
open Go.RowKit
set_option maxRecDepth 100000
set_option linter.unusedVariables false
set_option linter.unusedSimpArgs false


/-- Both oracles, side by side, in memory of their own. -/
structure BI (B bO gO gm bR gr : Nat) (w : World) (f : List Int → Value) (v : Value) (es : List En) (u : Value) (us : List En) : Prop where
  o : Orc bO gO gm w f v es
  r : Rfo bR gr w u us
  d1 : ∀ b, omut gO gm f v b → ¬ rmut gr u b ∧ ¬ oimm us b
  d2 : ∀ b, rmut gr u b → ¬ oimm es b
  lo : ∀ b, omut gO gm f v b ∨ rmut gr u b → B ≤ b
  bs : B ≤ w.heap.size ∧ bO ≤ w.heap.size ∧ bR ≤ w.heap.size
theorem BI.bel {B bO gO gm bR gr : Nat} {w w' : World} {f : List Int → Value} {v : Value} {es : List En} {u : Value} {us : List En} (h : BI B bO gO gm bR gr w f v es u us) (hb : Below w.heap.size w w') : BI B bO gO gm bR gr w' f v es u us :=
  ⟨OrX.bel h.o hb, h.r.bel hb, h.d1, h.d2, h.lo, by have := h.bs; have := hb.size; omega⟩
theorem BI.ostep {B bO gO gm bR gr : Nat} {w w' : World} {f f' : List Int → Value} {v v' : Value} {es es' : List En} {u : Value} {us : List En} (h : BI B bO gO gm bR gr w f v es u us) (st : OSt bO gO gm f v es w f' v' es' w') : BI B bO gO gm bR gr w' f' v' es' u us := by
  have hs := st.c.size
  have hbs := h.bs
  refine ⟨st.o, h.r.chg st.c (fun b q q' => q.elim (h.d1 b q').1 (h.d1 b q').2), fun b q => ?_, fun b q q' => ?_, fun b q => ?_, by omega⟩
  · rcases st.m b q with q | q
    · exact h.d1 b q
    · exact ⟨fun q' => by have := h.r.mut_lt (.inl q'); omega, fun q' => by have := h.r.mut_lt (.inr q'); omega⟩
  · rcases st.i b q' with q' | q'
    · exact h.d2 b q q'
    · have := h.r.mut_lt (.inl q); omega
  · rcases q with q | q
    · rcases st.m b q with q | q
      · exact h.lo b (.inl q)
      · omega
    · exact h.lo b (.inr q)
theorem BI.rstep {B bO gO gm bR gr : Nat} {w w' : World} {f : List Int → Value} {v : Value} {es : List En} {u u' : Value} {us us' : List En} (h : BI B bO gO gm bR gr w f v es u us) (st : RSt bR gr u us w u' us' w') : BI B bO gO gm bR gr w' f v es u' us' := by
  have hs := st.c.size
  have hbs := h.bs
  refine ⟨OrX.chg h.o st.c (fun b q q' => q.elim (fun q => (h.d1 b q).1 q') (h.d2 b q')), st.o, fun b q => ⟨fun q' => ?_, fun q' => ?_⟩, fun b q q' => ?_, fun b q => ?_, by omega⟩
  · rcases st.m b q' with q' | q'
    · exact (h.d1 b q).1 q'
    · have := OrX.mut_lt h.o (.inl q); omega
  · rcases st.i b q' with q' | q'
    · exact (h.d1 b q).2 q'
    · have := OrX.mut_lt h.o (.inl q); omega
  · rcases st.m b q with q | q
    · exact h.d2 b q q'
    · have := OrX.mut_lt h.o (.inr q'); omega
  · rcases q with q | q
    · exact h.lo b (.inl q)
    · rcases st.m b q with q | q
      · exact h.lo b (.inr q)
      · omega
theorem BI.obel {B bO gO gm bR gr : Nat} {w w' : World} {f f' : List Int → Value} {v v' : Value} {es es' : List En} {u : Value} {us : List En} (h : BI B bO gO gm bR gr w f v es u us) (st : OSt bO gO gm f v es w f' v' es' w') : Below B w w' :=
  st.c.below (fun i hi => ⟨by have := h.bs; omega, fun q => by have := h.lo i (.inl q); omega⟩)
theorem BI.rbel {B bO gO gm bR gr : Nat} {w w' : World} {f : List Int → Value} {v : Value} {es : List En} {u u' : Value} {us us' : List En} (h : BI B bO gO gm bR gr w f v es u us) (st : RSt bR gr u us w u' us' w') : Below B w w' :=
  st.c.below (fun i hi => ⟨by have := h.bs; omega, fun q => by have := h.lo i (.inr q); omega⟩)
/-- All sums are those of the bytes. -/
def shOK (D : List (List Int × List Int)) : Prop := ∀ d ∈ D, d.2 = shl d.1
theorem shOK.pt {D : List (List Int × List Int)} (h : shOK D) (b : List Int) : shOK (pt D b (shl b)) := by
  unfold Ytbfelelngoonjaa.pt
  split
  · exact h
  · intro d hd
    rcases List.mem_append.1 hd with hd | hd
    · exact h d hd
    · simp at hd; subst hd; rfl
theorem shOK.ptl {D : List (List Int × List Int)} (h : shOK D) (l : List (List Int)) : shOK (ptl D l) := by
  induction l generalizing D with
  | nil => exact h
  | cons b r ih => exact ih (h.pt b)
theorem shOK.en {es : List En} (h : shOK (dats es)) : ∀ e ∈ es, e.sm = shl e.bs := fun e he => h e.dat (List.mem_map.2 ⟨e, he, rfl⟩)
theorem dats_bs {es us : List En} (h : dats es = dats us) : es.map En.bs = us.map En.bs := by
  have k : ∀ l : List En, (dats l).map Prod.fst = l.map En.bs := fun l => by unfold dats; rw [List.map_map]; rfl
  rw [← k, ← k, h]
/-- Their lists are the same. -/
theorem same5_list (ax ax' b b' : Nat) (v v' : Value) (es us : List En) (w : World) (hE : EO b ax w v es) (hU : EO b' ax' w v' us) (hd : dats es = dats us) (hs : shOK (dats es)) (hl : es.length ≤ 1000000000) :
    Calls Try.prog 16 #[v, v'] w fun e w' => e = .returned (.bool true) ∧ Below w.heap.size w w' := by
  have hlen : es.length = us.length := by rw [← dats_len, ← dats_len us, hd]
  obtain ⟨sp, cp, rfl, h1⟩ := hE.es (by omega)
  obtain ⟨sp', cp', rfl, h2⟩ := hU.es (by omega)
  rw [← hlen] at h2 ⊢
  exact same5_true _ _ sp sp' _ cp cp' es us w h1 h2 (dats_bs hd) hs.en (by rw [hd] at hs; exact hs.en)
/-- Two answers of Get to one question. -/
theorem GetP.bs {D : List (List Int × List Int)} {k : List Int} {w w' : World} {r : Ending} (h : GetP D k w r w') : ∃ sp n cp, r = .returned (.tuple #[.slice sp n cp, .bool (gt D k).isSome]) ∧ BS w'.heap.size w' sp n cp ((gt D k).getD []) ∧ Below w.heap.size w w' := by
  obtain ⟨sp, n, cp, L, h1, h2, rfl, h4⟩ := h
  exact ⟨sp, n, cp, h1, h2, h4⟩
end Go.Proofs.Ytbfelelngoonjaa
/- Layer oracle: a call of a script, by value. -/
namespace Go.Proofs.Ytbfelelngoonjaa
open Go.RowKit
set_option maxRecDepth 100000
set_option linter.unusedVariables false
set_option linter.unusedSimpArgs false


def op0 : Opx := ⟨0, none, 0, 0, [], zs, none, 0, 0, []⟩
theorem zero40 : (Try.prog.info? 40).map (·.zero) = some (some (.agg op0.arr)) := by kernel_rfl
theorem zeroValue40 (w : World) : (zeroValue 40).run Try.prog w = .ok (.agg op0.arr) w := by
  have h := zero40
  cases hq : Try.prog.info? 40 with
  | none => rw [hq] at h; cases h
  | some i =>
    rw [hq] at h
    have hz : i.zero = some (.agg op0.arr) := by simpa using h
    simp [zeroValue, typeInfo, hq, hz]
theorem op0_size : op0.arr.size = 1091 := by
  have : (stC zs none 0 0).length = 1089 := stC_len zs_len (fun a ha => (zs_ok a ha).l32)
  simp only [Opx.arr, Opx.cells, List.size_toArray, List.length_cons, op0, this]
theorem al40 {ops : Array Oper} {rest : List Oper} {o : Oper} {a : Act} {w : World} {Q : Exit → Act → World → Prop} (hgd : o.guard = none) (ho : o.op = .alloc 40)
    (h : wpList Try.prog ops Q rest (a.put o.dst (.pointer (some ⟨w.heap.size, 0, none⟩))) (w.alloc (.cells op0.arr 40))) : wpList Try.prog ops Q (o :: rest) a w := by
  refine wpList_plain hgd fun _ hK => ?_
  have hr : (Instr.alloc 40 true (.tuple #[])).run Try.prog w = .ok (.pointer (some ⟨w.heap.size, 0, none⟩)) (w.alloc (.cells op0.arr 40)) := by
    have hz := zeroValue40 w
    simp [Instr.alloc, Sem.run_bind, hz, newVar, newRow, Result.andThen, Value.cells]
  unfold Oper.wp execOp
  simp only [ho, Sem.run_bind, hr, Result.andThen_ok, Sem.run_pure]
  exact hK _ _ h
theorem size40 : (Try.prog.info? 40).map (·.size) = some 1091 := by kernel_rfl
theorem ld40 {ops : Array Oper} {rest : List Oper} {o : Oper} {a : Act} {w : World} {Q : Exit → Act → World → Prop} (hgd : o.guard = none) (x : Operand) (ho : o.op = .load 40 x)
    (b off : Nat) (hx : a.eval x = .pointer (some ⟨b, off, none⟩)) (p : Opx) (hp : p.cells.length = 1091) (hc : w.rangeAt b off p.cells)
    (h : wpList Try.prog ops Q rest (a.put o.dst (.agg p.arr)) w) : wpList Try.prog ops Q (o :: rest) a w :=
  wpList_load_mid hgd 40 x ho b off hx p.cells _ hc Try.underlying40 rfl (by rw [hp]; exact size40) h
theorem st40n {ops : Array Oper} {rest : List Oper} {o : Oper} {a : Act} {Q : Exit → Act → World → Prop} (hgd : o.guard = none) (x y : Operand) (ho : o.op = .store 40 x y) (W : World) (g : Nat) (hgW : W.heap.size = g)
    (p : Opx) (hp : p.cells.length = 1091) (hx : a.eval x = .pointer (some ⟨g, 0, none⟩)) (hy : a.eval y = .agg p.arr)
    (h : wpList Try.prog ops Q rest (a.put o.dst undef) (W.alloc (.cells p.arr 40))) : wpList Try.prog ops Q (o :: rest) a (W.alloc (.cells op0.arr 40)) := by
  subst hgW
  have hs : p.arr.size = 1091 := by simp [Opx.arr, hp]
  exact wpList_store_new W op0.arr 40 hgd 40 x y ho p.arr hx hy (by rw [hs]; exact size40) (by rw [op0_size, hs]) (all_oneCell_toArray p.one) h
theorem Opx.at0 {w : World} {g : Nat} {p : Opx} (h : Arr w g 40 p.arr) : w.cell? ⟨g, 0, none⟩ = some (.int .u8 p.c) := by rw [h.cell]; simp [Opx.arr, Opx.cells]
theorem Opx.at1 {w : World} {g : Nat} {p : Opx} (h : Arr w g 40 p.arr) : w.cell? ⟨g, 1, none⟩ = some (.slice p.bp p.bn p.bc) := by rw [h.cell]; simp [Opx.arr, Opx.cells]
theorem Opx.at2 {w : World} {g : Nat} {p : Opx} (h : Arr w g 40 p.arr) : w.rangeAt g 2 (stC p.ps p.sp p.n p.cap) := fun j v hv => by
  rw [Nat.add_comm 2 j, h.cell]
  simpa [Opx.arr, Opx.cells] using hv
theorem y38m {ops : Array Oper} {S : World → Prop} {op : Oper} {a : Act} (hw : Region.wanted op (yielded ops a.tmps) = true) (x : Operand) (ho : op.op = .load 38 x)
    (g off : Nat) (hx : a.eval x = .pointer (some ⟨g, off, none⟩)) (ps : List Ac) (sp : Option Addr) (n cap : Nat) (h1 : ps.length = 32) (h2 : ∀ a ∈ ps, a.lk.length = 32) (hS : ∀ w, S w → w.rangeAt g off (stC ps sp n cap)) : YieldsIf Try.prog ops S op (.agg (stA ps sp n cap)) a :=
  yieldsIf_load_mid hw 38 x ho g off hx (stC ps sp n cap) _ hS Try.underlying38 rfl (by rw [stC_len h1 h2]; exact size30)
theorem yNe {ops : Array Oper} {S : World → Prop} {op : Oper} {a : Act} (hw : Region.wanted op (yielded ops a.tmps) = true) (x y : Operand) (ho : op.op = .binOp .neq 32 x y 32)
    (X : List Int) (hx : a.eval x = .agg (h8 X)) (hy : a.eval y = .agg (h8 X)) (hX : X.length = 32) : YieldsIf Try.prog ops S op (.bool false) a :=
  .inl ⟨hw, fun w hw => by
    have cc := run_eqIn24 hX hX w
    rw [decide_eq_true rfl] at cc
    unfold execOp
    simp only [ho, hx, hy]
    go_simp⟩
end Go.Proofs.Ytbfelelngoonjaa
/- Layer oracle: every call, in every order. -/
namespace Go.Proofs.Ytbfelelngoonjaa
open Go.RowKit
set_option maxRecDepth 100000
set_option linter.unusedVariables false
set_option linter.unusedSimpArgs false


theorem radd_s {S L : List Int} (hS : S = shl L) (base gt : Nat) (u : Value) (us : List En) (sp : Option Addr) (n cap : Nat) (N : Nat) (w : World) (hR : Rfo base gt w u us) (hB : BS N w sp n cap L) (hbase : base ≤ w.heap.size) (hlen : us.length < 1000000000) :
    Calls Try.prog 9 #[.pointer (some ⟨gt, 0, none⟩), .slice sp n cap] w fun r w' => r = .returned (.agg (h8 S)) ∧ ∃ u' us', RSt base gt u us w u' us' w' ∧ dats us' = pt (dats us) L S := by
  subst hS
  exact radd_any base gt u us sp n cap L N w hR hB hbase hlen
set_option maxHeartbeats 8000000 in
theorem plays_walk (sq : Option Addr) (k cq : Nat) (xs : List Opx) (w : World) (hP : PS w.heap.size w sq k cq xs) (hk : k ≤ 2000000) :
    Calls Try.prog 3 #[.slice sq k cq] w fun e w' => e = .returned (.bool true) ∧ Below w.heap.size w w' := by
  have hkl := hP.len
  obtain ⟨B, hB0⟩ : ∃ B, B = w.heap.size := ⟨_, rfl⟩
  rw [← hB0] at hP ⊢
  have hBw : B ≤ w.heap.size := by omega
  have hBw2 : w.heap.size ≤ B := by omega
  clear hB0
  go_enter Try.func3, Try.ntmps3
  go_upto_region 3 with (go_at_call 6; go_must (refine (anchored_any w).mono ?_; rintro e wA ⟨rfl, hbA⟩))
  have BA : Below B w wA := hbA.mono hBw
  have hsA := hbA.size
  have O0 := Orc.new wA
  have BO : Below wA.heap.size wA ((wA.alloc (.map #[] 0)).alloc (.cells #[.map (some wA.heap.size), .slice none 0 0] 68)) := (alloc_bel' wA _).alloc (by simp) _
  have hzO : ((wA.alloc (.map #[] 0)).alloc (.cells #[.map (some wA.heap.size), .slice none 0 0] 68)).heap.size = wA.heap.size + 2 := by simp
  go_upto_region 4 with (go_at_call 7; go_must (refine (new_any wA).mono ?_; rintro e w1 ⟨rfl, rfl⟩))
  generalize (wA.alloc (.map #[] 0)).alloc (.cells #[.map (some wA.heap.size), .slice none 0 0] 68) = W0 at *
  have hzO2 : wA.heap.size + 2 ≤ W0.heap.size := by omega
  replace hzO := hid hzO
  have st0 : BI B (wA.heap.size + 2) (wA.heap.size + 1) wA.heap.size (W0.heap.size + 1) W0.heap.size (W0.alloc (.cells #[.slice none 0 0] 28)) (fun _ => .slice none 0 0) (.slice none 0 0) [] (.slice none 0 0) [] := by
    refine ⟨OrX.bel O0 (alloc_bel' W0 _), ⟨Arr.new W0 28 _, EO.nil _ _ _, by omega⟩, fun b q => ⟨fun q' => ?_, ?_⟩, fun b q => ?_, fun b q => ?_, by simp; omega⟩
    · rcases q with q | q | q | ⟨k, q⟩
      · rcases q' with q' | q'
        · omega
        · simp [Value.ownBlock] at q'
      · rcases q' with q' | q'
        · omega
        · simp [Value.ownBlock] at q'
      · simp [Value.ownBlock] at q
      · simp [Value.ownBlock] at q
    · rintro ⟨e, he, -⟩; cases he
    · rintro ⟨e, he, -⟩; cases he
    · rcases q with (q | q | q | ⟨k, q⟩) | (q | q)
      · omega
      · omega
      · simp [Value.ownBlock] at q
      · simp [Value.ownBlock] at q
      · omega
      · simp [Value.ownBlock] at q
  have B0 : Below B w (W0.alloc (.cells #[.slice none 0 0] 28)) := (BA.trans (BO.mono (by omega))).alloc (by omega) _
  clear O0 BO BA
  generalize hgm : wA.heap.size = gm at *
  generalize hgr : W0.heap.size = gr at *
  go_upto_region 6 with fail
  generalize W0.alloc (.cells #[.slice none 0 0] 28) = W1 at *
  clear hgm hgr hbA hzO
  go_loopw [5] (fun q wr => ∃ (j : Nat) (f : List Int → Value) (v : Value) (es : List En) (u : Value) (us : List En), q = .int .i64 (j : Int) ∧ j ≤ k ∧ BI B (gm + 2) (gm + 1) gm (gr + 1) gr wr f v es u us ∧ Below B w wr ∧ Hid (dats es = dats us) ∧ Hid (shOK (dats es)) ∧ es.length ≤ 200 * j) (fun q _ => k - (intOf q).toNat)
  case atStart => exact ⟨0, _, _, [], _, [], rfl, by omega, st0, B0, hid rfl, hid (fun d hd => by cases hd), by simp⟩
  case round =>
    obtain ⟨j, f, v, es, u, us, rfl, hj, hBI, hb, hd, hsh, hlen⟩ := hrel
    clear st0 B0
    have hlu : us.length = es.length := by rw [← dats_len, ← dats_len es, hd.out]
    by_cases hlt : j < k
    · have hI : (j : Int) < k := by omega
      have hI0 : (0 : Int) ≤ j := by omega
      have hPr := hP.below hb
      obtain ⟨g, off, rfl, hgB, hR⟩ := hPr.at0 (by omega)
      obtain ⟨x, hx⟩ : ∃ x, xs[j]? = some x := ⟨xs[j]'(by rw [← hkl.out]; exact hlt), List.getElem?_eq_getElem _⟩
      have hok := hPr.ok x (List.mem_of_getElem? hx)
      have hxl := Opx.len hok
      have hRx := hR j x hx
      have AX := Arr.new wr 40 x.arr
      have bX := alloc_bel' wr (.cells x.arr 40)
      have hbs := hBI.bs
      have BX := hBI.bel bX
      have hbX : Below B w (wr.alloc (.cells x.arr 40)) := hb.trans (bX.mono hbs.1)
      have okX := hok.below (bX.mono hbs.1)
      have hnr : ∀ b, wr.heap.size ≤ b → ¬ rmut gr u b := fun b hb' q => by have := hBI.r.mut_lt (.inl q); omega
      have hno : ∀ b, wr.heap.size ≤ b → ¬ omut (gm + 1) gm f v b := fun b hb' q => by have := OrX.mut_lt hBI.o (.inl q); omega
      have hzX : (wr.alloc (.cells x.arr 40)).heap.size = wr.heap.size + 1 := by simp
      clear hx hR hPr hok
      go_upto_region 9 with (first
        | (refine ld40 (by rfl) _ (by rfl) g (off + j * 1091) (by rfl) x hxl hRx ?_)
        | (refine al40 (by rfl) (by rfl) ?_)
        | (refine st40n (by rfl) _ _ (by rfl) wr wr.heap.size rfl x hxl (by rfl) (by rfl) ?_))
      generalize wr.alloc (.cells x.arr 40) = W at *
      have hzX2 : wr.heap.size < W.heap.size := by omega
      replace hzX := hid hzX
      have k0 := Opx.at0 AX
      have k1 := Opx.at1 AX
      have k2 := Opx.at2 AX
      clear hRx
      by_cases hc0 : x.c = 0
      · obtain ⟨S, hS⟩ : ∃ S, S = shl x.L := ⟨_, rfl⟩
        have hS32 : S.length = 32 := by rw [hS]; exact shl_len _
        have hadd := hid (oadd_s hS _ _ _ _ _ _ x.bp x.bn x.bc _ W BX.o okX.b (fun h0 b off q q' => by
          have := BX.lo b (.inl q')
          obtain ⟨b', off', e', hb', -⟩ := okX.b.at0 h0
          rw [q] at e'; cases e'; omega) (by omega) (by omega))
        have hradd := hid (fun u us w hR hB hbase hlen => radd_s hS (gr + 1) gr u us x.bp x.bn x.bc B w hR hB hbase hlen)
        have hpt : Hid (∀ D, shOK D → shOK (pt D x.L S)) := hid (fun D h => by rw [hS]; exact h.pt _)
        clear hS
        go_upto_region 12 with (first
          | (go_at_call 8; go_must (refine hadd.out.mono ?_; rintro r w2 ⟨rfl, f2, v2, es2, st2, hd2⟩))
          | (refine st24n (by rfl) _ _ (by rfl) w2 w2.heap.size rfl (by rfl) S (by rfl) (by rfl) hS32 ?_))
        have AX2 := AX.chg st2.c (hno _ (Nat.le_refl _))
        have B2 := BX.ostep st2
        have hb2 := hbX.trans (BX.obel st2)
        have ok2 := okX.below (BX.obel st2)
        have bS := alloc_bel' w2 (.cells (h8 S) 32)
        have G7 := Arr.new w2 32 (h8 S)
        have AX3 := AX2.below bS AX2.lt
        have hs2 := st2.c.size
        have B3 := B2.bel bS
        have hb3 := hb2.trans (bS.mono B2.bs.1)
        have ok3 := ok2.below (bS.mono B2.bs.1)
        have hz3 : (w2.alloc (.cells (h8 S) 32)).heap.size = w2.heap.size + 1 := by simp
        clear hadd bS AX2 B2 hb2 ok2
        generalize w2.alloc (.cells (h8 S) 32) = W2 at *
        have hz3' : w2.heap.size < W2.heap.size := by omega
        replace hz3 := hid hz3
        have j1 := Opx.at1 AX3
        have hbs3 := B3.bs
        refine rgn (fun u => Arr u w2.heap.size 32 (h8 S) ∧ Arr u wr.heap.size 40 x.arr) ⟨G7.drew, AX3.drew⟩ (fun hS => ?_)
        refine tk 0 rfl ?_
        refine tk 1 rfl ?_
        refine tk 2 rfl ?_
        refine tl 3 rfl (y24 (by rfl) (.tmp 7) rfl w2.heap.size 0 rfl S hS32 (fun u hu => hu.1.range)) ?_
        refine tk 4 rfl ?_
        refine tl 5 rfl (yL29 (by rfl) (.tmp 41) rfl wr.heap.size 1 rfl _ _ _ (fun u hu => Opx.at1 hu.2)) ?_
        refine rd 6 rfl (fun K hK => ?_)
        go_simp
        have B4 := B3.bel (Below.refl _ _).drew
        refine (hradd.out u us W2.drew B4.r (ok3.b.below (Below.refl _ _).drew) (by show gr + 1 ≤ W2.heap.size; omega) (by omega)).mono ?_
        rintro r w4 ⟨rfl, u4, us4, st4, hd4⟩
        have B5 := B4.rstep st4
        have hb5 := (hb3.drew).trans (B4.rbel st4)
        go_wp2_with fail
        refine ko hK ⟨(G7.drew).chg st4.c (hnr _ (by omega)), (AX3.drew).chg st4.c (hnr _ (Nat.le_refl _))⟩ (fun hS => ?_)
        refine tl 7 rfl (yNe (by rfl) (.tmp 40) (.tmp 43) rfl S rfl rfl hS32) ?_
        refine tk 8 rfl ?_
        refine dn ?_
        have hl2 : es2.length ≤ 200 * (j + 1) := by
          have q := congrArg List.length hd2
          have q2 := pt_len (dats es) x.L S
          rw [dats_len] at q q2; omega
        have hd5 : Hid (dats es2 = dats us4) := hid (by rw [hd2, hd4, hd.out])
        have hsh5 : Hid (shOK (dats es2)) := hid (by rw [hd2]; exact hpt.out _ hsh.out)
        clear hS B4 B3 hb3 ok3 G7 AX3 j1 k0 k1 k2 AX BX okX hradd hbX
        go_wp2_with fail
        go_roundw
        case rel => exact ⟨j + 1, _, _, es2, _, us4, by go_num, by omega, B5, hb5, hd5, hsh5, hl2⟩
        case measure => simp [intOf]; omega
      by_cases hc1 : x.c = 1
      · have hl := BX.bs
        have hlearn := hid (olearn_any _ _ _ _ _ _ x.ps _ x.sp x.n x.cap x.os W.drew (OrX.bel BX.o (Below.refl _ _).drew) (okX.s.below (Below.refl _ _).drew) (by show gm + 2 ≤ W.heap.size; omega) (by omega))
        have hrl := hid (fun u us w hR hS hbase hlen => rlearn_any (gr + 1) gr u us x.ps B x.sp x.n x.cap x.os w hR hS hbase hlen)
        obtain ⟨z, hz⟩ : ∃ z, z = rtE x.ps x.os := ⟨_, rfl⟩
        rw [← hz] at hlearn
        have hrl : Hid (∀ u us w, Rfo (gr + 1) gr w u us → SS B w x.ps x.sp x.n x.cap x.os → gr + 1 ≤ w.heap.size → us.length + 200 < 1000000000 → Calls Try.prog 11 #[.pointer (some ⟨gr, 0, none⟩), .agg (stA x.ps x.sp x.n x.cap)] w fun r w' => r = .returned (.int .i64 z) ∧ ∃ u' us', RSt (gr + 1) gr u us w u' us' w' ∧ dats us' = ptl (dats us) (KBs x.ps x.os)) := hid (fun u us w h1 h2 h3 h4 => by rw [hz]; exact hrl.out u us w h1 h2 h3 h4)
        have hkb := KBs_len x.os okX.s.a32.out
        have h32 := okX.s.a32.out
        have hl32 := okX.s.l32
        clear hz
        have hcn : (x.c == 0) = false := by rw [hc1]; rfl
        go_upto_region 15 with fail
        refine rgn (fun u => Arr u wr.heap.size 40 x.arr) AX.drew (fun hS => ?_)
        refine tk 0 rfl ?_
        refine tk 1 rfl ?_
        refine tl 2 rfl (y38m (by rfl) (.tmp 49) rfl wr.heap.size 2 rfl x.ps x.sp x.n x.cap h32 hl32 (fun u hu => Opx.at2 hu)) ?_
        refine tk 4 rfl ?_
        refine tl 5 rfl (y38m (by rfl) (.tmp 52) rfl wr.heap.size 2 rfl x.ps x.sp x.n x.cap h32 hl32 (fun u hu => Opx.at2 hu)) ?_
        refine rd 3 rfl (fun K hK => ?_)
        go_simp
        refine hlearn.out.mono ?_
        rintro r w3 ⟨rfl, f3, v3, es3, st3, hd3⟩
        have B1 := BX.bel (Below.refl _ _).drew
        have B3 := B1.ostep st3
        have hb3 := (hbX.drew).trans (B1.obel st3)
        have ok3 := (okX.below (Below.refl _ _).drew).below (B1.obel st3)
        have A3 := (AX.drew).chg st3.c (hno _ (Nat.le_refl _))
        have hs3 := st3.c.size
        have hbs3 := B3.bs
        go_wp2_with fail
        refine ko hK A3 (fun hS => ?_)
        refine rd 6 rfl (fun K hK => ?_)
        go_simp
        refine (hrl.out u us w3 B3.r ok3.s (by omega) (by omega)).mono ?_
        rintro r w4 ⟨rfl, u4, us4, st4, hd4⟩
        have B4 := B3.rstep st4
        have hb4 := hb3.trans (B3.rbel st4)
        go_wp2_with fail
        refine ko hK (A3.chg st4.c (hnr _ (Nat.le_refl _))) (fun hS => ?_)
        refine tk 7 rfl ?_
        refine dn ?_
        have hl3 : es3.length ≤ 200 * (j + 1) := by
          have q := congrArg List.length hd3
          have q2 := ptl_len (dats es) (KBs x.ps x.os)
          rw [dats_len] at q q2; omega
        have hd5 : Hid (dats es3 = dats us4) := hid (by rw [hd3, hd4, hd.out])
        have hsh5 : Hid (shOK (dats es3)) := hid (by rw [hd3]; exact hsh.out.ptl _)
        clear hS B1 B3 hb3 ok3 A3 k0 k1 k2 AX BX okX hlearn hrl hbX hl32 h32 hkb
        go_wp2_with fail
        go_roundw
        case rel => exact ⟨j + 1, _, _, es3, _, us4, by go_num, by omega, B4, hb4, hd5, hsh5, hl3⟩
        case measure => simp [intOf]; omega
      by_cases hc2 : x.c = 2
      · obtain ⟨S, hS⟩ : ∃ S, S = shl x.L := ⟨_, rfl⟩
        have hS32 : S.length = 32 := by rw [hS]; exact shl_len _
        have hsum := hid (fun w hB => rsum_s hS x.bp x.bn x.bc B w hB)
        clear hS
        have hg1 := hid (fun w hO => oget_any (gm + 2) (gm + 1) gm f v es S w hO hS32 (by omega))
        have hg2 := hid (fun w hR => rget_any (gr + 1) gr u us S w hR hS32 (by omega))
        obtain ⟨G, hG⟩ : ∃ G, G = gt (dats us) S := ⟨_, rfl⟩
        have hG1 : Hid (∀ w w' r, GetP (dats es) S w r w' → ∃ sp n cp, r = .returned (.tuple #[.slice sp n cp, .bool G.isSome]) ∧ BS w'.heap.size w' sp n cp (G.getD []) ∧ Below w.heap.size w w') := hid (fun w w' r h => by have := h.bs; rw [hd.out, ← hG] at this; exact this)
        have hG2 : Hid (∀ w w' r, GetP (dats us) S w r w' → ∃ sp n cp, r = .returned (.tuple #[.slice sp n cp, .bool G.isSome]) ∧ BS w'.heap.size w' sp n cp (G.getD []) ∧ Below w.heap.size w w') := hid (fun w w' r h => by have := h.bs; rw [← hG] at this; exact this)
        clear hG
        generalize hGb : G.isSome = Gb at *
        generalize hGL : G.getD [] = GL at *
        clear hGb hGL
        have hcn : (x.c == 0) = false := by rw [hc2]; rfl
        have hcn1 : (x.c == 1) = false := by rw [hc2]; rfl
        go_upto_region 19 with (first
          | (go_at_call 13; go_must (refine (hsum.out W okX.b).mono ?_; rintro e w2 ⟨rfl, hb2⟩; have BX2 := BX.bel hb2))
          | (go_at_call 12; go_must (refine (hg1.out w2 BX2.o).mono ?_; rintro r w3 hr3; obtain ⟨s3, n3, c3, rfl, hB3, hb3⟩ := hG1.out _ _ _ hr3)))
        have b3 := hb2.trans (hb3.mono hb2.size)
        have B3 := BX.bel b3
        have ok3 := okX.below (b3.mono BX.bs.1)
        have hbb3 := hbX.trans (b3.mono BX.bs.1)
        have AX3 := AX.below b3 AX.lt
        have l1 := Opx.at1 AX3
        clear hb2 hb3 b3
        go_upto_region 20 with (first
          | (go_at_call 13; go_must (refine (hsum.out w3 ok3.b).mono ?_; rintro e w4 ⟨rfl, hb4⟩; have BX4 := B3.bel hb4))
          | (go_at_call 14; go_must (refine (hg2.out w4 BX4.r).mono ?_; rintro r w5 hr5; obtain ⟨s5, n5, c5, rfl, hB5, hb5⟩ := hG2.out _ _ _ hr5)))
        have b5 := hb4.trans (hb5.mono hb4.size)
        have B5 := B3.bel b5
        have hbb5 := hbb3.trans (b5.mono B3.bs.1)
        have hB35 := hB3.below b5
        have hl5 : es.length ≤ 200 * (j + 1) := by omega
        have hbne : ∀ b : Bool, (b != b) = false := by decide
        clear hb4 hb5 BX okX AX AX3 ok3 l1 k0 k1 k2 hbX hbb3
        go_wp2_with (go_at_call 15; go_must (refine (same01_any s3 s5 n3 n5 c3 c5 GL GL _ _ w5 hB35 hB5).mono ?_; rw [decide_eq_true (rfl : GL = GL)]; rintro r w6 ⟨rfl, h6⟩; replace h6 := h6.symm; subst h6))
        go_roundw
        case rel => exact ⟨j + 1, _, _, es, _, us, by go_num, by omega, B5, hbb5, hd, hsh, hl5⟩
        case measure => simp [intOf]; omega
      have hcn : (x.c == 0) = false := by simpa using hc0
      have hcn1 : (x.c == 1) = false := by simpa using hc1
      have hcn2 : (x.c == 2) = false := by simpa using hc2
      have hl5 : es.length ≤ 200 * (j + 1) := by omega
      by_cases hc3 : x.c = 3
      · obtain ⟨su, cu, rfl⟩ := BX.r.U.sl
        obtain ⟨nu, hnu⟩ : ∃ nu, nu = us.length := ⟨_, rfl⟩
        rw [← hnu] at BX hBI
        replace hnu := hid hnu
        have hlist := hid (list_any _ _ _ _ _ _ W.drew (OrX.bel BX.o (Below.refl _ _).drew) (by omega))
        have hcn : (3 == (0 : Int)) = false := rfl
        have hcn1 : (3 == (1 : Int)) = false := rfl
        have hcn2 : (3 == (2 : Int)) = false := rfl
        go_upto_region 23 with fail
        refine rgn (fun u => Arr u gr 28 #[.slice su nu cu]) BX.r.A.drew (fun hS => ?_)
        refine tk 0 rfl ?_
        refine tk 2 rfl ?_
        refine tl 3 rfl (yL26 (by rfl) (.tmp 86) rfl gr 0 rfl _ _ _ (fun u hu => by simpa using hu.cell 0)) ?_
        refine rd 1 rfl (fun K hK => ?_)
        go_simp
        refine hlist.out.mono ?_
        rintro r w3 ⟨ax, v3, ks, rfl, hE3, hd3, hb3⟩
        obtain ⟨s3, c3, rfl⟩ := hE3.sl
        have b3 : Below W.heap.size W w3 := ((Below.refl _ _).drew).trans (hb3.mono (Nat.le_refl _))
        have B3 := BX.bel b3
        have hbb3 := hbX.trans (b3.mono BX.bs.1)
        have hkn : ks.length ≤ 1000000000 := by
          have q := congrArg List.length hd3
          rw [dats_len, dats_len] at q; omega
        have hsame := hid (same5_list _ _ _ _ _ _ ks us w3 hE3 B3.r.U (hd3.trans hd.out) (by rw [hd3]; exact hsh.out) hkn)
        generalize ks.length = kn at *
        clear hE3
        go_wp2_with fail
        refine ko hK B3.r.A (fun hS => ?_)
        refine rd 4 rfl (fun K hK => ?_)
        go_simp
        refine hsame.out.mono ?_
        rintro r w4 ⟨rfl, hb4⟩
        have B4 := B3.bel hb4
        have hbb4 := hbb3.trans (hb4.mono B3.bs.1)
        go_wp2_with fail
        refine ko hK B4.r.A (fun hS => ?_)
        refine tk 5 rfl ?_
        refine dn ?_
        clear hS B3 hbb3 BX okX AX k0 k1 k2 hbX hsame hlist
        go_wp2_with fail
        go_roundw
        case rel => exact ⟨j + 1, _, _, es, _, us, by go_num, by omega, B4, hbb4, hd, hsh, hl5⟩
        case measure => simp [intOf]; omega
      · have hcn3 : (x.c == 3) = false := by simpa using hc3
        go_wp2_with fail
        go_roundw
        case rel => exact ⟨j + 1, _, _, es, _, us, by go_num, by omega, BX, hbX, hd, hsh, hl5⟩
        case measure => simp [intOf]; omega
    · obtain rfl : j = k := by omega
      have hI : ¬ (j : Int) < j := by omega
      obtain ⟨su, cu, rfl⟩ := hBI.r.U.sl
      obtain ⟨nu, hnu⟩ : ∃ nu, nu = us.length := ⟨_, rfl⟩
      rw [← hnu] at hBI
      replace hnu := hid hnu
      have hbs := hBI.bs
      have hlist := hid (list_any _ _ _ _ _ _ wr.drew (OrX.bel hBI.o (Below.refl _ _).drew) (by omega))
      go_upto_region 25 with fail
      refine rgn (fun u => Arr u gr 28 #[.slice su nu cu]) hBI.r.A.drew (fun hS => ?_)
      refine tk 0 rfl ?_
      refine tk 2 rfl ?_
      refine tl 3 rfl (yL26 (by rfl) (.tmp 92) rfl gr 0 rfl _ _ _ (fun u hu => by simpa using hu.cell 0)) ?_
      refine rd 1 rfl (fun K hK => ?_)
      go_simp
      refine hlist.out.mono ?_
      rintro r w3 ⟨ax, v3, ks, rfl, hE3, hd3, hb3⟩
      obtain ⟨s3, c3, rfl⟩ := hE3.sl
      have b3 : Below wr.heap.size wr w3 := ((Below.refl _ _).drew).trans (hb3.mono (Nat.le_refl _))
      have B3 := hBI.bel b3
      have hbb3 := hb.trans (b3.mono hBI.bs.1)
      have hkn : ks.length ≤ 1000000000 := by
        have q := congrArg List.length hd3
        rw [dats_len, dats_len] at q; omega
      have hsame := hid (same5_list _ _ _ _ _ _ ks us w3 hE3 B3.r.U (hd3.trans hd.out) (by rw [hd3]; exact hsh.out) hkn)
      generalize ks.length = kn at *
      clear hE3
      go_wp2_with fail
      refine ko hK B3.r.A (fun hS => ?_)
      refine rd 4 rfl (fun K hK => ?_)
      go_simp
      refine hsame.out.mono ?_
      rintro r w4 ⟨rfl, hb4⟩
      have hbb4 := hbb3.trans (hb4.mono B3.bs.1)
      go_wp2_with fail
      refine ko hK (B3.bel hb4).r.A (fun hS => ?_)
      refine rd 5 rfl (fun K hK => ?_)
      go_simp
      go_wp2_with fail
      refine ko hK (B3.bel hb4).r.A (fun hS => ?_)
      refine dn ?_
      go_wp2_with fail
      go_ret
      exact ⟨rfl, hbb4⟩
end Go.Proofs.Ytbfelelngoonjaa
