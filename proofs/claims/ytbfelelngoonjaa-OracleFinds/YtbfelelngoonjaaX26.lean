/- V3, V4. -/
import Derived.Test.YtbfelelngoonjaaX25
import Derived.Maps.AppendAt
/- Layer oracle: does it stand there? -/
namespace Go.Proofs.Ytbfelelngoonjaa
open Go.RowKit
set_option maxRecDepth 100000
set_option linter.unusedVariables false
set_option linter.unusedSimpArgs false


theorem yL66 {ops : Array Oper} {S : World → Prop} {op : Oper} {a : Act} (hw : Region.wanted op (yielded ops a.tmps) = true) (x : Operand) (ho : op.op = .load 66 x)
    (b o : Nat) (hx : a.eval x = .pointer (some ⟨b, o, none⟩)) (m : Option Nat) (hS : ∀ w, S w → w.cell? ⟨b, o, none⟩ = some (.map m)) : YieldsIf Try.prog ops S op (.map m) a :=
  .inl ⟨hw, fun w hw => by
    have cc := hS w hw
    unfold execOp
    simp only [ho, hx]
    go_simp⟩
theorem yL26 {ops : Array Oper} {S : World → Prop} {op : Oper} {a : Act} (hw : Region.wanted op (yielded ops a.tmps) = true) (x : Operand) (ho : op.op = .load 26 x)
    (b o : Nat) (hx : a.eval x = .pointer (some ⟨b, o, none⟩)) (sp : Option Addr) (n cap : Nat) (hS : ∀ w, S w → w.cell? ⟨b, o, none⟩ = some (.slice sp n cap)) : YieldsIf Try.prog ops S op (.slice sp n cap) a :=
  .inl ⟨hw, fun w hw => by
    have cc := hS w hw
    unfold execOp
    simp only [ho, hx]
    go_simp⟩
theorem yL29 {ops : Array Oper} {S : World → Prop} {op : Oper} {a : Act} (hw : Region.wanted op (yielded ops a.tmps) = true) (x : Operand) (ho : op.op = .load 29 x)
    (b o : Nat) (hx : a.eval x = .pointer (some ⟨b, o, none⟩)) (sp : Option Addr) (n cap : Nat) (hS : ∀ w, S w → w.cell? ⟨b, o, none⟩ = some (.slice sp n cap)) : YieldsIf Try.prog ops S op (.slice sp n cap) a :=
  .inl ⟨hw, fun w hw => by
    have cc := hS w hw
    unfold execOp
    simp only [ho, hx]
    go_simp⟩
theorem yL3 {ops : Array Oper} {S : World → Prop} {op : Oper} {a : Act} (hw : Region.wanted op (yielded ops a.tmps) = true) (x : Operand) (ho : op.op = .load 3 x)
    (b o : Nat) (hx : a.eval x = .pointer (some ⟨b, o, none⟩)) (z : Int) (hS : ∀ w, S w → w.cell? ⟨b, o, none⟩ = some (.int .i64 z)) : YieldsIf Try.prog ops S op (.int .i64 z) a :=
  .inl ⟨hw, fun w hw => by
    have cc := hS w hw
    unfold execOp
    simp only [ho, hx]
    go_simp⟩

theorem yLook {ops : Array Oper} {S : World → Prop} {op : Oper} {a : Act} (hw : Region.wanted op (yielded ops a.tmps) = true) (x y : Operand) (ho : op.op = .lookup 66 x y false)
    (r : Nat) (hx : a.eval x = .map (some r)) (k : List Int) (hk : k.length = 32) (hy : a.eval y = .agg (h8 k)) (f : List Int → Value) (v : Value) (hv : f k = v) (hS : ∀ w, S w → PM w r f) : YieldsIf Try.prog ops S op v a :=
  .inl ⟨hw, fun w hw => by
    have cc := run_lookupP (hS w hw) k hk
    rw [hv] at cc
    unfold execOp
    simp only [ho, hx, hy, Sem.run_bind, cc, Result.andThen_ok, Sem.run_pure]⟩
theorem dat_mem {es : List En} {e : En} : e.dat ∈ dats es ↔ ∃ p ∈ pl es e.sm, ∃ q, es[p]? = some q ∧ q.bs = e.bs := by
  constructor
  · intro h
    obtain ⟨q, hq, hd⟩ := List.mem_map.1 h
    obtain ⟨p, hp, he⟩ := List.getElem_of_mem hq
    have h1 : q.bs = e.bs := congrArg Prod.fst hd
    have h2 : q.sm = e.sm := congrArg Prod.snd hd
    have h3 : es[p]? = some q := by rw [← he]; exact List.getElem?_eq_getElem hp
    exact ⟨p, pl_mem.2 ⟨q, h3, h2⟩, q, h3, h1⟩
  · rintro ⟨p, hp, q, hq, hb⟩
    obtain ⟨q', h1, h2⟩ := pl_mem.1 hp
    rw [hq] at h1; cases h1
    exact List.mem_map.2 ⟨q, List.mem_of_getElem? hq, by simp [En.dat, hb, h2]⟩
set_option maxHeartbeats 2000000 in
theorem has_any (base gO gm : Nat) (f : List Int → Value) (v : Value) (es : List En) (e : En) (N : Nat) (w : World) (hO : Orc base gO gm w f v es) (he : EnOK N w e) (hlen : es.length ≤ 1000000000) :
    Calls Try.prog 51 #[.pointer (some ⟨gO, 0, none⟩), .agg e.arr] w fun r w' => r = .returned (.bool (decide (e.dat ∈ dats es))) ∧ Below w.heap.size w w' := by
  have he32 := he.s32
  obtain ⟨b, hb⟩ : ∃ b, b = decide (e.dat ∈ dats es) := ⟨_, rfl⟩
  rw [← hb]
  have hbT : Hid (∀ (p : Nat) (q : En), p ∈ pl es e.sm → es[p]? = some q → q.bs = e.bs → b = true) := hid (fun p q h1 h2 h3 => by rw [hb]; exact decide_eq_true (dat_mem.2 ⟨p, h1, q, h2, h3⟩))
  have hbF : Hid ((∀ i p, (pl es e.sm)[i]? = some p → ∀ q : En, es[p]? = some q → q.bs ≠ e.bs) → b = false) := hid (fun h => by
    rw [hb]
    refine decide_eq_false (fun h' => ?_)
    obtain ⟨p, hp, q, hq, hbs⟩ := dat_mem.1 h'
    obtain ⟨i, hi, hpi⟩ := List.getElem_of_mem hp
    exact h i p (by rw [← hpi]; exact List.getElem?_eq_getElem hi) q hq hbs)
  clear hb
  have B0 := alloc_bel' w (.cells e.arr 71)
  have A0 := Arr.new w 71 e.arr
  have O0 := hO.bel B0
  have E0 := he.here.below B0
  obtain ⟨sv, cv, rfl, -⟩ := hO.E.es (by omega)
  obtain ⟨sp, cap, hfk, hn, hsn, -⟩ := rowI_at (hO.P e.sm)
  obtain ⟨n, hnn⟩ : ∃ n, n = (pl es e.sm).length := ⟨_, rfl⟩
  rw [← hnn] at hfk
  have hnle : n ≤ es.length := by rw [hnn]; exact pl_len es e.sm
  replace hnn := hid hnn
  obtain ⟨ne, hne⟩ : ∃ ne, ne = es.length := ⟨_, rfl⟩
  rw [← hne] at hlen hnle
  rw [← hne] at O0
  replace hne := hid hne
  clear hO he hn
  go_enter Try.func51, Try.ntmps51
  go_upto_region 1 with fail
  generalize w.alloc (.cells e.arr 71) = W at *
  refine rgn (fun u => Arr u w.heap.size 71 e.arr ∧ Arr u gO 68 #[.map (some gm), .slice sv ne cv] ∧ PM u gm f) ⟨A0.drew, O0.A.drew, O0.M.same rfl⟩ (fun hS => ?_)
  refine tk 0 rfl ?_
  refine tk 1 rfl ?_
  refine tk 2 rfl ?_
  refine tl 3 rfl (yL66 (by rfl) (.tmp 9) rfl gO 0 rfl (some gm) (fun u hu => by simpa using hu.2.1.cell 0)) ?_
  refine tk 4 rfl ?_
  refine tl 5 rfl (y24 (by rfl) (.tmp 11) rfl w.heap.size (0 + 1) rfl e.sm he32 (fun u hu => range_sm (rangeE hu.1))) ?_
  refine tl 6 rfl (yLook (by rfl) (.tmp 10) (.tmp 12) rfl gm rfl e.sm he32 rfl f _ hfk (fun u hu => hu.2.2)) ?_
  refine tk 7 rfl ?_
  refine tk 8 rfl ?_
  refine dn ?_
  clear hS
  replace A0 := A0.drew
  replace O0 := O0.bel (Below.refl _ _).drew
  replace E0 := E0.below ((Below.refl _ _).drew)
  replace B0 := B0.drew
  generalize W.drew = U at *
  go_wp2_with fail
  go_loopw [15] (fun q wr => ∃ j : Nat, q = .int .i64 (j : Int) ∧ j ≤ n ∧ Arr wr w.heap.size 71 e.arr ∧ Orc base gO gm wr f (.slice sv ne cv) es ∧ EnOK w.heap.size wr e ∧ Below w.heap.size w wr ∧ Hid (∀ i p, i < j → (pl es e.sm)[i]? = some p → ∀ q : En, es[p]? = some q → q.bs ≠ e.bs)) (fun q _ => n - (intOf q).toNat)
  case atStart => exact ⟨0, rfl, by omega, A0, O0, E0, B0, hid (fun i p hi => by omega)⟩
  case round =>
    obtain ⟨j, rfl, hj, A1, O1, E1, B1, hno⟩ := hrel
    clear A0 O0 E0 B0
    by_cases hlt : j < n
    · have hI : (j : Int) < n := by omega
      obtain ⟨p, hp⟩ : ∃ p, (pl es e.sm)[j]? = some p := ⟨(pl es e.sm)[j]'(by rw [← hnn.out]; exact hlt), List.getElem?_eq_getElem _⟩
      obtain ⟨q, hq, hqs⟩ := pl_mem.1 (List.mem_of_getElem? hp)
      have hpn := (List.getElem?_eq_some_iff.1 hq).1
      rw [← hne.out] at hpn
      have hpI : (p : Int) < ne := by omega
      have hp0 : (0 : Int) ≤ p := by omega
      obtain ⟨sp', cap', hf', -, -, hcell⟩ := rowI_at (O1.P e.sm)
      rw [hfk] at hf'
      obtain ⟨g, hg, cp⟩ := hcell j p hp
      have hsp : sp = some ⟨g, 0, none⟩ := by cases hf'; exact hg
      subst hsp
      obtain ⟨sv', cv', hv', hES⟩ := O1.E.es (by rw [← hne.out]; omega)
      obtain ⟨gv, ov, hgv, -, hR⟩ := hES.at0 (by rw [← hne.out]; omega)
      have hsv : sv = some ⟨gv, ov, none⟩ := by cases hv'; exact hgv
      subst hsv
      have hRq := hR p q hq
      have hok := (O1.E.ok q (List.mem_of_getElem? hq))
      clear hcell hES hR hv' hf' hg hgv
      have hT : Hid (q.bs = e.bs → b = true) := hid (fun h => hbT.out p q (List.mem_of_getElem? hp) hq h)
      have hN : Hid (q.bs ≠ e.bs → ∀ i p, i < j + 1 → (pl es e.sm)[i]? = some p → ∀ q : En, es[p]? = some q → q.bs ≠ e.bs) := hid (fun h i p' hi hp' q' hq' => by
        by_cases hij : i = j
        · subst hij; rw [hp] at hp'; cases hp'; rw [hq] at hq'; cases hq'; exact h
        · exact hno.out i p' (by omega) hp' q' hq')
      clear hq hp hqs
      go_upto_region 4 with fail
      refine rgn (fun u => Arr u w.heap.size 71 e.arr ∧ Arr u gO 68 #[.map (some gm), .slice (some ⟨gv, ov, none⟩) ne cv] ∧ u.rangeAt gv (ov + p * 33) q.cells) ⟨A1.drew, O1.A.drew, hRq⟩ (fun hS => ?_)
      refine tk 0 rfl ?_
      refine tk 1 rfl ?_
      refine tk 2 rfl ?_
      refine tl 3 rfl (yL26 (by rfl) (.tmp 21) rfl gO 1 rfl _ _ _ (fun u hu => by simpa using hu.2.1.cell 1)) ?_
      refine tk 4 rfl ?_
      refine tk 5 rfl ?_
      refine tk 6 rfl ?_
      refine tl 7 rfl (y5c (by rfl) (.tmp 25) rfl gv (ov + p * 33) rfl q (fun u hu => hu.2.2)) ?_
      refine tk 8 rfl ?_
      refine tl 9 rfl (y5c (by rfl) (.tmp 27) rfl w.heap.size 0 rfl e (fun u hu => rangeE hu.1)) ?_
      refine rd 10 rfl (fun K hK => ?_)
      go_simp
      refine (equal_any q.sp e.sp q.n e.n q.cap e.cap q.bs e.bs _ _ wr.drew (hok.body.below (Below.refl _ _).drew) (E1.body.below (Below.refl _ _).drew)).mono ?_
      rintro r w4 ⟨rfl, rfl⟩
      go_wp2_with fail
      refine ko hK hS (fun hS => ?_)
      refine dn ?_
      replace A1 := A1.drew
      replace O1 := O1.bel (Below.refl _ _).drew
      replace E1 := E1.below ((Below.refl _ _).drew)
      replace B1 := B1.drew
      clear hS hRq hok cp
      generalize wr.drew = U1 at *
      by_cases hb : q.bs = e.bs
      · rw [decide_eq_true hb]
        have hbt := hT.out hb
        subst hbt
        go_wp2_with fail
        go_ret
        exact ⟨rfl, B1⟩
      · rw [decide_eq_false hb]
        have hN2 := hid (hN.out hb)
        go_wp2_with fail
        go_roundw
        case rel => exact ⟨j + 1, by go_num, by omega, A1, O1, E1, B1, hN2⟩
        case measure => simp [intOf]; omega
    · obtain rfl : j = n := by omega
      have hI : ¬ (j : Int) < j := by omega
      have hbf : b = false := hbF.out (fun i p hp q hq => hno.out i p (by rw [hnn.out]; exact (List.getElem?_eq_some_iff.1 hp).1) hp q hq)
      subst hbf
      go_wp2_with fail
      go_ret
      exact ⟨rfl, B1⟩
end Go.Proofs.Ytbfelelngoonjaa
/- Layer oracle: one entry more. -/
namespace Go.Proofs.Ytbfelelngoonjaa
open Go.RowKit
set_option maxRecDepth 100000
set_option linter.unusedVariables false
set_option linter.unusedSimpArgs false


theorem wp_mapEntry {o : Oper} {a : Act} {w : World} {K : Act → World → Prop} {Q : Exit → Act → World → Prop} (x y : Operand) (ho : o.op = .mapEntry 66 x y) (r : Nat) (hx : a.eval x = .map (some r)) (k : List Int) (hy : a.eval y = .agg (h8 k)) (f : List Int → Value) (v : Value) (hv : f k = v) (ob : Obj) (st : Int) (hE : PE w r f k ob st)
    (h : K (a.put o.dst (.tuple #[v, .int .i64 st])) (w.putObj r ob)) : o.wp Try.prog a w K Q := by
  have h1 := hE.1
  rw [hv] at h1
  unfold Oper.wp execOp
  simp only [ho, hx, hy, Sem.run_bind, h1, Result.andThen_ok, Sem.run_pure]
  exact h
theorem wp_entryStore {o : Oper} {a : Act} {w : World} {K : Act → World → Prop} {Q : Exit → Act → World → Prop} (x y z : Operand) (ho : o.op = .entryStore 66 x y z) (r : Nat) (hx : a.eval x = .map (some r)) (st : Int) (hy : a.eval y = .int .i64 st) (v : Value) (hz : a.eval z = v) (ob : Obj) (hE : (Instr.entryStore 66 (.map (some r)) (.int .i64 st) v).run Try.prog w = .ok () (w.putObj r ob))
    (h : K (a.put o.dst undef) (w.putObj r ob)) : o.wp Try.prog a w K Q := by
  unfold Oper.wp execOp
  simp only [ho, hx, hy, hz, Sem.run_bind, hE, Result.andThen_ok, Sem.run_pure]
  exact h
theorem info3 : (Try.prog.info? 3).map (fun i => (i.zero, i.size, i.bytes)) = some (some (.int .i64 0), 1, 8) := by kernel_rfl
theorem wp_bldI {o : Oper} {a : Act} {w : World} {K : Act → World → Prop} {Q : Exit → Act → World → Prop} (x : Operand) (ho : o.op = .buildSlice 76 1 #[(0, x)]) (z : Int) (hx : a.eval x = .int .i64 z)
    (h : K (a.put o.dst (.slice (some ⟨w.heap.size, 0, none⟩) 1 1)) (w.alloc (.cells #[.int .i64 z] 3))) : o.wp Try.prog a w K Q := by
  obtain ⟨i0, hi0, hz0, hz1, hz2⟩ := info_parts info3
  refine wp_buildSlice 76 3 1 _ ho #[.int .i64 z] i0 (.int .i64 0) Try.underlying76 hi0 hz0 (by rw [hz1]; omega) (by rw [hz1]; omega) ?_ h
  have e1 : (#[(0, x)].map fun (p : Nat × Operand) => (p.1, a.eval p.2)).toList = ([Value.int .i64 z].zipIdx 0).map fun x => (x.2, x.1) := by simp [hx]
  rw [hz1]
  refine Eq.trans (congrArg _ e1) ?_
  rw [Great.fill_whole (s := 1) (by omega) [.int .i64 z] _ (fun v hv => by simp only [List.mem_singleton] at hv; rw [hv]; rfl) (by simp)]
  simp [Value.cells]
/-- A number appended. -/
theorem wp_appI {o : Oper} {a : Act} {w : World} {K : Act → World → Prop} {Q : Exit → Act → World → Prop} (s x : Operand) (ho : o.op = .call { callee := .builtin .append, args := #[s, x], argTypes := #[76, 76] })
    (base : Nat) (v : Value) (l : List Nat) (i : Nat) (hs : a.eval s = v) (hE : w.ownsRow base 3 1 v l.length (ints l)) (gx c : Nat) (hx : a.eval x = .slice (some ⟨gx, 0, none⟩) 1 c) (hA : w.cell? ⟨gx, 0, none⟩ = some (.int .i64 (i : Int))) (hk : l.length ≤ 1000000000) (hbase : base ≤ w.heap.size)
    (h : ∀ v' w', w'.ownsRow base 3 1 v' (l ++ [i]).length (ints (l ++ [i])) → w.grownBy w' v.ownBlock → (v'.ownBlock = v.ownBlock ∨ v'.ownBlock = some w.heap.size) → K (a.put o.dst v') w') : o.wp Try.prog a w K Q := by
  obtain ⟨i0, hi0, hz0, hz1, hz2⟩ := info_parts info3
  obtain ⟨v', w', hr, h2, h3, h4, h5⟩ := run_append_own_at (P := Try.prog) w base 76 o.type 3 i0 (.int .i64 0) 1 8 Try.underlying76 hi0 hz0 hz1 hz2 rfl (by omega) v l.length _ hE ⟨gx, 0, none⟩ 1 c [.int .i64 (i : Int)] (by simp) (fun j u hj => by
    cases j with
    | zero => simp at hj; subst hj; simpa [Addr.add_mid] using hA
    | succ j => simp at hj) (fun u hu => by simp at hu; subst hu; rfl) (by unfold maxLen; omega) (by omega) hbase
  unfold Oper.wp execOp
  simp only [ho, resolve, invoke, builtin, Sem.run_bind, Sem.run_pure, Result.andThen_ok, List.map_toArray, List.map_cons, List.map_nil, hs, hx, hr]
  exact h v' w' (by rw [ints_app, List.length_append]; exact h2) h3 h5
theorem putObj_get {w : World} {r : Nat} {o : Obj} (h : r < w.heap.size) : (w.putObj r o).heap[r]? = some o := World.putObj_heap_same h
/-- The places of one more entry. -/
theorem OrX.place {base gO gm : Nat} {w w2 w3 w4 : World} {f : List Int → Value} {v v' : Value} {es : List En} {e : En} {ob ob' : Obj} (h : Orc base gO gm w f v es) (he : e.sm.length = 32) (hc : Chg (fun b => b = gm) w w2) (ho : w2.heap[gm]? = some ob)
    (hv' : w3.ownsRow base 3 1 v' (pl es e.sm ++ [es.length]).length (ints (pl es e.sm ++ [es.length]))) (hg : w2.grownBy w3 (f e.sm).ownBlock) (hl : v'.ownBlock = (f e.sm).ownBlock ∨ v'.ownBlock = some w2.heap.size) (h4 : w4 = w3.putObj gm ob') (hM : PM w4 gm (fun j => if j = e.sm then v' else f j)) :
    OrX base gO gm w4 (fun j => if j = e.sm then v' else f j) v es (es ++ [e]) ∧ Chg (omut gO gm f v) w w4 ∧ ∀ b, omut gO gm (fun j => if j = e.sm then v' else f j) v b → omut gO gm f v b ∨ w.heap.size ≤ b := by
  have hgm := h.M.lt
  have hs2 := hc.size
  have hs3 := hg.size
  have c3 : Chg (fun b => b = gm ∨ (f e.sm).ownBlock = some b) w w3 := (hc.mono (fun _ _ q => Or.inl q)).grown hg (fun k hk q => Or.inr q)
  have c4 : Chg (fun b => b = gm ∨ (f e.sm).ownBlock = some b) w w4 := by rw [h4]; exact c3.put ob' (fun _ => .inl rfl)
  have ge : ∀ k b, (f k).ownBlock = some b → base ≤ b := fun k b hb => own_ge (h.P k) b hb
  have vge : ∀ b, v.ownBlock = some b → base ≤ b := fun b hb => own_ge h.E.own b hb
  have hlt := h.lt
  have hvlt : ∀ b, v'.ownBlock = some b → (f e.sm).ownBlock = some b ∨ w.heap.size ≤ b := fun b hb => by
    rcases hl with hl | hl
    · exact .inl (hl.symm.trans hb)
    · right; have := Option.some.inj (hl.symm.trans hb); omega
  refine ⟨⟨h.A.chg c4 ?_, hM, h.E.chg c4 ?_ ?_, fun k => ?_, h.lt, fun k b hb => ?_, fun k b hb => ?_, fun k k' b hb hb' => ?_⟩, c4.mono ?_, ?_⟩
  · rintro (q | q)
    · omega
    · have := ge _ _ q; omega
  · rintro k hk (q | q)
    · have := vge _ hk; omega
    · exact h.v1 _ _ q hk
  · rintro x hx b off hb (q | q)
    · have := (h.E.ap x hx b off hb).1; omega
    · exact h.v2 _ _ q ⟨x, hx, off, hb⟩
  · by_cases hk : k = e.sm
    · subst hk
      simp only [if_true]
      rw [pl_app, if_pos rfl]
      refine own_same hv' (fun b hb => ?_)
      rw [h4]
      refine World.putObj_heap_other (fun q => ?_)
      have := own_ge hv' b hb
      omega
    · simp only [if_neg hk]
      rw [pl_app, if_neg (fun q => hk q.symm), List.append_nil]
      refine own_same (h.P k) (fun b hb => c4.block b (own_lt (h.P k) hb) ?_)
      rintro (q | q)
      · have := ge _ _ hb; omega
      · exact hk (h.v3 _ _ _ hb q)
  · by_cases hk : k = e.sm
    · simp only [if_pos hk] at hb
      rcases hvlt b hb with q | q
      · exact h.v1 _ _ q
      · intro q'; have := own_lt h.E.own q'; omega
    · simp only [if_neg hk] at hb; exact h.v1 _ _ hb
  · by_cases hk : k = e.sm
    · simp only [if_pos hk] at hb
      rcases hvlt b hb with q | q
      · exact h.v2 _ _ q
      · rintro ⟨x, hx, off, hs⟩; have := (h.E.ap x hx b off hs).2.1; omega
    · simp only [if_neg hk] at hb; exact h.v2 _ _ hb
  · by_cases hk : k = e.sm
    · by_cases hk' : k' = e.sm
      · rw [hk, hk']
      · simp only [if_pos hk] at hb
        simp only [if_neg hk'] at hb'
        rcases hvlt b hb with q | q
        · exact absurd (h.v3 _ _ _ hb' q) hk'
        · have := own_lt (h.P k') hb'; omega
    · by_cases hk' : k' = e.sm
      · simp only [if_neg hk] at hb
        simp only [if_pos hk'] at hb'
        rcases hvlt b hb' with q | q
        · exact absurd (h.v3 _ _ _ hb q) hk
        · have := own_lt (h.P k) hb; omega
      · simp only [if_neg hk] at hb
        simp only [if_neg hk'] at hb'
        exact h.v3 _ _ _ hb hb'
  · rintro i hi (q | q)
    · exact .inr (.inl q)
    · exact .inr (.inr (.inr ⟨_, q⟩))
  · rintro b (q | q | q | ⟨k, q⟩)
    · exact .inl (.inl q)
    · exact .inl (.inr (.inl q))
    · exact .inl (.inr (.inr (.inl q)))
    · by_cases hk : k = e.sm
      · simp only [if_pos hk] at q
        rcases hvlt b q with q | q
        · exact .inl (.inr (.inr (.inr ⟨_, q⟩)))
        · exact .inr q
      · simp only [if_neg hk] at q
        exact .inl (.inr (.inr (.inr ⟨_, q⟩)))
/-- .. and the entry behind the others. -/
theorem OrX.behind {base gO gm : Nat} {w w2 w3 w4 : World} {f : List Int → Value} {v v' : Value} {es : List En} {e e' : En} (h : OrX base gO gm w f v es (es ++ [e])) (hsm : e'.sm = e.sm) (hb2 : Below w.heap.size w w2) (hfr : ∀ b off, e'.sp = some ⟨b, off, none⟩ → w.heap.size ≤ b)
    (hE : EO base gO w3 v' (es ++ [e'])) (hg : w2.grownBy w3 v.ownBlock) (hl : v'.ownBlock = v.ownBlock ∨ v'.ownBlock = some w2.heap.size) (h4 : w4 = w3.setCell ⟨gO, 1, none⟩ v') (hA : Arr w4 gO 68 #[.map (some gm), v']) :
    Orc base gO gm w4 f v' (es ++ [e']) ∧ Chg (omut gO gm f v) w w4 ∧ (∀ b, omut gO gm f v' b → omut gO gm f v b ∨ w.heap.size ≤ b) ∧ ∀ b, oimm (es ++ [e']) b → oimm es b ∨ w.heap.size ≤ b := by
  have hs2 := hb2.size
  have hs3 := hg.size
  have hlt := h.lt
  have c3 : Chg (fun b => b = gO ∨ v.ownBlock = some b) w w3 := (Chg.of_below hb2).grown hg (fun k hk q => Or.inr q)
  have c4 : Chg (fun b => b = gO ∨ v.ownBlock = some b) w w4 := by rw [h4]; exact c3.setCell v' (fun _ => .inl rfl)
  have ge : ∀ k b, (f k).ownBlock = some b → base ≤ b := fun k b hb => own_ge (h.P k) b hb
  have vge : ∀ b, v'.ownBlock = some b → base ≤ b := fun b hb => own_ge hE.own b hb
  have hvlt : ∀ b, v'.ownBlock = some b → v.ownBlock = some b ∨ w.heap.size ≤ b := fun b hb => by
    rcases hl with hl | hl
    · exact .inl (hl.symm.trans hb)
    · right; have := Option.some.inj (hl.symm.trans hb); omega
  have hps : ∀ k, pl (es ++ [e']) k = pl (es ++ [e]) k := fun k => by rw [pl_app, pl_app, hsm]
  have Gs := gb_setCell (World.grownBy.refl w3 (some gO)) 1 v'
  have hvg : v'.ownBlock ≠ some gO := fun q => by have := vge _ q; omega
  refine ⟨⟨hA, h.M.same (c4.block gm h.M.lt ?_), by rw [h4]; exact hE.grown Gs hvg, fun k => ?_, h.lt, fun k b hb => ?_, fun k b hb => ?_, h.v3⟩, c4.mono ?_, ?_, ?_⟩
  · rintro (q | q)
    · exact hlt.2.2 q.symm
    · have := own_ge h.E.own _ q; omega
  · rw [hps]
    refine own_same (h.P k) (fun b hb => c4.block b (own_lt (h.P k) hb) ?_)
    rintro (q | q)
    · have := ge _ _ hb; omega
    · exact h.v1 _ _ hb q
  · intro q
    rcases hvlt b q with q | q
    · exact h.v1 _ _ hb q
    · have := own_lt (h.P k) hb; omega
  · rintro ⟨x, hx, off, hs⟩
    rcases List.mem_append.1 hx with hx | hx
    · exact h.v2 _ _ hb ⟨x, hx, off, hs⟩
    · simp at hx; subst hx
      have := own_lt (h.P k) hb; have := hfr b off hs; omega
  · rintro i hi (q | q)
    · exact .inl q
    · exact .inr (.inr (.inl q))
  · rintro b (q | q | q | ⟨k, q⟩)
    · exact .inl (.inl q)
    · exact .inl (.inr (.inl q))
    · rcases hvlt b q with q | q
      · exact .inl (.inr (.inr (.inl q)))
      · exact .inr q
    · exact .inl (.inr (.inr (.inr ⟨_, q⟩)))
  · rintro b ⟨x, hx, off, hs⟩
    rcases List.mem_append.1 hx with hx | hx
    · exact .inl ⟨x, hx, off, hs⟩
    · simp at hx; subst hx
      exact .inr (hfr b off hs)
end Go.Proofs.Ytbfelelngoonjaa
