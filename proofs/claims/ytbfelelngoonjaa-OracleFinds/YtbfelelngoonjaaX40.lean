/- Layer oracle: List. -/
import Derived.Test.YtbfelelngoonjaaX39
import Derived.Test.YtbfelelngoonjaaX32
import Derived.Test.YtbfelelngoonjaaX21
import Derived.Test.YtbfelelngoonjaaX19
namespace Go.Proofs.Ytbfelelngoonjaa
open Go.RowKit Go.Shelf
set_option maxRecDepth 100000
set_option linter.unusedVariables false
set_option linter.unusedSimpArgs false
attribute [local go_sem] Oper.semAt_some

/-- What an oracle's list wants of the memory while it is told. -/
def LM (gc gO B0 : Nat) (sp : Option Addr) (n cap : Nat) (es : List En) (W : World) : Prop := W.cell? ⟨gc, 0, none⟩ = some (.pointer (some ⟨gO, 0, none⟩)) ∧ W.cell? ⟨gO, 1, none⟩ = some (.slice sp n cap) ∧ ES B0 W sp n cap es
set_option maxHeartbeats 1000000 in
theorem all_in (gc gO S0 B0 : Nat) (sp : Option Addr) (n cap : Nat) (es : List En) (hgc : gc < S0) (hB0 : B0 ≤ S0) (hn : n ≤ 1000000000) :
    Tells 57 #[.pointer (some ⟨gc, 0, none⟩)] S0 B0 (LM gc gO B0 sp n cap es) (fun j e => es[j]? = some e) n := by
  intro k lp J hJM hJB hY W own0 h0
  refine callsIn_of_wp Try.func57 rfl trivial ?_ rfl
  simp only [Try.ntmps57, List.size_toArray, List.length_cons, List.length_nil, Nat.reduceAdd, Nat.reduceSub, Array.replicate_succ, Array.replicate_zero, List.push_toArray, List.append_toArray, List.nil_append, List.cons_append]
  obtain ⟨⟨c1, c2, hE0⟩, hsz, -⟩ := hJM 0 own0 W h0
  have hl := hE0.len
  clear hE0
  gi_wp2
  gi_loopw [10] (fun d wr => ∃ (j : Nat) (own : Nat → Prop), d = .int .i64 (j : Int) ∧ j ≤ n ∧ J j own wr) (fun d _ => n - (intOf d).toNat)
  case atStart => exact ⟨0, own0, rfl, by omega, h0⟩
  case round =>
    obtain ⟨j, own, rfl, hj, hJj⟩ := hrel
    clear h0
    obtain ⟨⟨-, -, hE⟩, hszr, -⟩ := hJM j own wr hJj
    by_cases hlt : j < n
    · have hI : (j : Int) < n := by omega
      obtain ⟨g, off, rfl, hgN, hR⟩ := hE.at0 (by omega)
      obtain ⟨e, he⟩ : ∃ e, es[j]? = some e := ⟨es[j]'(by rw [← hl.out]; exact hlt), List.getElem?_eq_getElem _⟩
      have heo := hE.ok e (List.mem_of_getElem? he)
      have he32 := heo.s32
      have hRe := hR j e he
      have A1 := Arr.new wr 71 e.arr
      have hb1 := alloc_bel' wr (.cells e.arr 71)
      have hJ1 := hJB j own wr _ hJj (Sam.of hb1)
      obtain ⟨fn, tmps, assign, body, hy, hR⟩ := hY j own _ e hJ1 hlt ((heo.below (hb1.mono (by omega))).mono (by simp; omega)) he (fun b ⟨hb0, off, q⟩ => by
        obtain ⟨b', off', q', hb', -⟩ := heo.body.at0 hb0
        rw [q] at q'; cases q'
        exact .inl hb')
      clear he
      gi_wp2_with (first
        | (refine li77w (by rfl) _ (by rfl) g (off + j * 33) (by rfl) e he32 hRe ?_)
        | (refine si77nw (by rfl) _ _ (by rfl) wr wr.heap.size rfl (by rfl) e (by rfl) (by rfl) he32 ?_)
        | (refine li77w (by rfl) _ (by rfl) wr.heap.size 0 (by rfl) e he32 (rangeE A1) ?_))
      refine ⟨fun h => (by cases h), hR.mono ?_⟩
      rintro r W3 ⟨rfl, own3, hJ3, -⟩
      gi_wp2
      go_roundw
      case rel => exact ⟨j + 1, own3, by go_num, by omega, hJ3⟩
      case measure => simp [intOf]; omega
    · obtain rfl : j = n := by omega
      have hI : ¬ (j : Int) < j := by omega
      gi_wp2
      go_end0
      exact ⟨⟨_, rfl⟩, own, hJj⟩
theorem list_nil (w : World) : Calls Try.prog 17 #[.pointer none] w fun e w' => e = .returned (.slice none 0 0) ∧ w' = w := by
  go_enter Try.func17, Try.ntmps17
  go_wp2_with (go_at_call 25; go_must (refine (isThere_nil _).mono ?_; rintro e w2 ⟨rfl, h22⟩; replace h22 := h22.symm; subst h22))
  go_ret
  exact ⟨rfl, rfl⟩
/-- What List answers. -/
def ListP (es : List En) (w : World) (r : Ending) (w' : World) : Prop :=
  ∃ ax v ks, r = .returned v ∧ EO w.heap.size ax w' v ks ∧ dats ks = dats es ∧ Below w.heap.size w w'
/-- What stands in List's loop. -/
structure LIx (b0 : Nat) (w : World) (gl D : Nat) (M : World → Prop) (es : List En) (j : Nat) (own : Nat → Prop) (v : Value) (ks : List En) (W : World) : Prop where
  bel : Below b0 w W
  m : M W
  o : own = OWN v ks
  a : Arr W gl 26 #[v]
  eo : EO b0 gl W v ks
  dat : Hid (dats ks = (dats es).take j)
  r : ∀ b, v.ownBlock = some b → b = b0 ∨ D ≤ b
  sz : D ≤ W.heap.size
theorem LM.sam {gc gO B0 : Nat} {sp : Option Addr} {n cap : Nat} {es : List En} {W W' : World} (h : LM gc gO B0 sp n cap es W) (hb : ∀ b, b < B0 ∨ b = gc ∨ b = gO → b < W.heap.size → W'.heap[b]? = W.heap[b]?) : LM gc gO B0 sp n cap es W' := by
  obtain ⟨h1, h2, h3⟩ := h
  refine ⟨?_, ?_, ⟨h3.len, h3.nil, h3.le, h3.big, h3.small, fun h0 => ?_, fun e he => ⟨⟨(h3.ok e he).body.len, (h3.ok e he).body.nil, (h3.ok e he).body.le, (h3.ok e he).body.big, (h3.ok e he).body.small, fun h0 => ?_, (h3.ok e he).body.bts⟩, (h3.ok e he).s32⟩⟩⟩
  · rw [← h1]; exact World.cell?_of_block (hb gc (.inr (.inl rfl)) (block_lt_of_cell h1))
  · rw [← h2]; exact World.cell?_of_block (hb gO (.inr (.inr rfl)) (block_lt_of_cell h2))
  · obtain ⟨b, off, q, hbN, hR⟩ := h3.at0 h0
    exact ⟨b, off, q, hbN, fun i X hX j u hu => by rw [← hR i X hX j u hu]; exact World.cell?_of_block (hb b (.inl hbN) (block_lt_of_cell (hR i X hX j u hu)))⟩
  · obtain ⟨b, off, q, hbN, hB⟩ := (h3.ok e he).body.at0 h0
    exact ⟨b, off, q, hbN, fun u hu => by rw [← hB u hu]; exact World.cell?_of_block (hb b (.inl hbN) (block_lt_of_cell (hB u hu)))⟩
theorem mk77w {k : Nat} {ops : Array Oper} {rest : List Oper} {o : Oper} {a : Act} {w : World} {Q : Exit → Act → World → Prop} (hgd : o.guard = none) (x y : Operand) (ho : o.op = .makeSlice 26 x y) (hx : a.eval x = .int .i64 0) (n : Nat) (hy : a.eval y = .int .i64 (n : Int)) (hn : n ≤ 1000000000)
    (h : ∀ C, (w.alloc (.cells C 71)).ownsRow w.heap.size 71 33 (.slice (some ⟨w.heap.size, 0, none⟩) 0 n) 0 [] → wpListIn Fence.wide k Try.prog ops Q rest (a.put o.dst (.slice (some ⟨w.heap.size, 0, none⟩) 0 n)) (w.alloc (.cells C 71))) : wpListIn Fence.wide k Try.prog ops Q (o :: rest) a w := by
  obtain ⟨i0, hi0, hz0, hz1, hz2⟩ := info_parts info54
  have hr := run_make (P := Try.prog) w 26 71 i0 (.agg (En.arr ⟨none, 0, 0, [], Z32⟩)) Try.underlying26 hi0 hz0 .i64 .i64 (0 : Int) (n : Int) (Int.le_refl _) (by omega) (by rw [hz2]; omega) (by omega)
  simp only [Int.toNat_zero, Int.toNat_natCast] at hr
  refine wpListIn_plain hgd fun _ hK => opInw (by rw [ho]; intro c hc; cases hc) ?_
  unfold Oper.wp execOp
  simp only [ho, hx, hy, hr, Sem.run_bind, Sem.run_pure, Result.andThen_ok]
  refine hK _ _ (h _ ?_)
  have := World.ownsRow_made (base := w.heap.size) (e := 71) (size := 33) w (madeCells (Value.agg (En.arr ⟨none, 0, 0, [], Z32⟩)).cells (n * i0.size)) n (Nat.le_refl _) (by unfold maxLen; omega) (by rw [← hz1]; exact size_madeCells _ _)
  exact this
set_option maxHeartbeats 4000000 in
theorem list_any (base gO gm : Nat) (f : List Int → Value) (v : Value) (es : List En) (w : World) (hO : Orc base gO gm w f v es) (hlen : es.length ≤ 900000000) :
    Calls Try.prog 17 #[.pointer (some ⟨gO, 0, none⟩)] w (ListP es w) := by
  obtain ⟨i0, hi, hz0, hz1, hz2⟩ := info_parts info54
  have hgO := hO.A.lt
  obtain ⟨sv, cv, rfl, hES⟩ := hO.E.es (by omega)
  obtain ⟨n, hn⟩ : ∃ n, n = es.length := ⟨_, rfl⟩
  rw [← hn] at hES hO hlen
  have c0 := hO.A.cell 0
  have c1 := hO.A.cell 1
  simp at c0 c1
  replace hn := hid hn
  clear hO
  refine (callsIn_wide (n := 3)).1 ?_
  refine callsIn_of_wp_marks Try.func17 rfl trivial ?_ rfl
  simp only [Try.ntmps17, List.size_toArray, List.length_cons, List.length_nil, Nat.reduceAdd, Nat.reduceSub, Array.replicate_succ, Array.replicate_zero, List.push_toArray, List.append_toArray, List.nil_append, List.cons_append]
  gi_wp2_with (first
    | (refine ⟨trivial, ?_⟩; gi_at_call 25; go_must (refine (callsIn_wide.2 (isThere_any gO gm w c0)).mono ?_; rintro e w2 ⟨rfl, h22⟩; replace h22 := h22.symm; subst h22))
    | (refine mk77w (by rfl) _ (.tmp 12) (by rfl) (by rfl) n (by rfl) (by omega) ?_; intro C hown3; have L3 := Arr.new (w.alloc (.cells C 71)) 26 #[.slice (some ⟨w.heap.size, 0, none⟩) 0 n])
    | (refine ⟨trivial, ?_⟩; gi_at_call 34; go_must (refine (callsIn_wide.2 (all_any (.pointer (some ⟨gO, 0, none⟩)) _ ⟨_, rfl⟩)).mono ?_; rintro e w4 ⟨rfl, rfl⟩)))
  obtain ⟨g0, hg0⟩ : ∃ g0, g0 = w.heap.size := ⟨_, rfl⟩
  have B3 : Below w.heap.size w (((w.alloc (.cells C 71)).alloc (.cells #[.slice (some ⟨w.heap.size, 0, none⟩) 0 n] 26)).alloc (.cells #[.pointer (some ⟨gO, 0, none⟩)] 24)) := ((alloc_bel' w _).alloc (by simp) _).alloc (by simp; omega) _
  have hz3 : (((w.alloc (.cells C 71)).alloc (.cells #[.slice (some ⟨w.heap.size, 0, none⟩) 0 n] 26)).alloc (.cells #[.pointer (some ⟨gO, 0, none⟩)] 24)).heap.size = g0 + 3 := by simp; omega
  have L4 := L3.alloc (.cells #[.pointer (some ⟨gO, 0, none⟩)] 24)
  have C4 := (Arr.new ((w.alloc (.cells C 71)).alloc (.cells #[.slice (some ⟨w.heap.size, 0, none⟩) 0 n] 26)) 24 #[.pointer (some ⟨gO, 0, none⟩)]).cell 0
  have E4 : EO w.heap.size (g0 + 1) (((w.alloc (.cells C 71)).alloc (.cells #[.slice (some ⟨w.heap.size, 0, none⟩) 0 n] 26)).alloc (.cells #[.pointer (some ⟨gO, 0, none⟩)] 24)) (.slice (some ⟨w.heap.size, 0, none⟩) 0 n) [] := ⟨(hown3.alloc _).alloc _, (fun e he => by cases he), (fun e he => by cases he)⟩
  simp only [World.size_alloc] at L4 C4
  simp at C4
  have hgOg : gO < g0 := by omega
  have M4 : LM (g0 + 2) gO g0 sv n cv es (((w.alloc (.cells C 71)).alloc (.cells #[.slice (some ⟨w.heap.size, 0, none⟩) 0 n] 26)).alloc (.cells #[.pointer (some ⟨gO, 0, none⟩)] 24)) := by
    refine ⟨by rw [hg0]; exact C4, by rw [← c1]; exact World.cell?_of_block (B3.block gO (by omega)), ?_⟩
    rw [hg0]; exact hES.below B3
  have hTl := all_in (g0 + 2) gO (g0 + 5) g0 sv n cv es (by omega) (by omega) (by omega)
  have hnone : (Value.slice (some ⟨w.heap.size, 0, none⟩) 0 n).ownBlock = some g0 := by rw [hg0]; rfl
  have hgc : w.heap.size + 1 + 1 = g0 + 2 := by omega
  have hgl : w.heap.size + 1 = g0 + 1 := by omega
  try simp only [World.size_alloc]
  rw [hgc, hgl]
  rw [hgl] at L4
  rw [← hg0] at B3 E4 L4 M4 hz3 hgO ⊢
  replace hg0 := hid hg0
  clear C4 c0 c1 hES L3 hown3
  generalize ((w.alloc (.cells C 71)).alloc (.cells #[.slice (some ⟨g0, 0, none⟩) 0 n] 26)).alloc (.cells #[.pointer (some ⟨gO, 0, none⟩)] 24) = W0 at *
  refine range_one 57 #[.pointer (some ⟨g0 + 2, 0, none⟩)] (g0 + 3) hz3 (by rfl) (enters_of Try.func57 (by kernel_rfl) rfl) n g0 (fun j e => es[j]? = some e) (LM (g0 + 2) gO g0 sv n cv es) hTl (fun j own W => ∃ v ks, LIx g0 w (g0 + 1) (g0 + 3) (LM (g0 + 2) gO g0 sv n cv es) es j own v ks W) ?_ ?_ (OWN (.slice (some ⟨g0, 0, none⟩) 0 n) []) ?_ ?_ ?_
  · rintro j own W ⟨v, ks, h⟩
    refine ⟨h.m, fun b hb => ?_⟩
    rw [h.o] at hb
    rcases hb with hb | ⟨e, he, h0, off, q⟩
    · exact own_lt h.eo.own hb
    · exact (h.eo.ap e he b off q).2.1
  · rintro j own W W' ⟨v, ks, h⟩ hs
    have hz := h.sz
    have hb := hs.below hz
    exact ⟨v, ks, h.bel.trans (hb.mono (by omega)), h.m.sam (fun b hb hl => hs.block b hl (.inl (by omega))), h.o, (hs.block _ (by omega) (.inl (by omega))).trans h.a, h.eo.sam (by rw [← h.o]; exact hs), h.dat, h.r, Nat.le_trans hz hs.size⟩
  · exact ⟨_, [], B3, M4, rfl, L4, E4, hid (by simp [dats]), (fun b hb => by simp [Value.ownBlock] at hb; exact .inl hb.symm), by omega⟩
  · rintro j own W1 e ⟨v0, ks0, hI0⟩ hjn hsz1 heo hte hqe m
    have hownlt : ∀ b, own b → b < W1.heap.size := fun b hb => by
      rw [hI0.o] at hb
      rcases hb with hb | ⟨e, he, h0, off, q⟩
      · exact own_lt hI0.eo.own hb
      · exact (hI0.eo.ap e he b off q).2.1
    clear hI0
    have he32 := heo.s32
    simp only [List.setIfInBounds_toArray, List.set_cons_zero, List.set_cons_succ]
    gi_wp2_with (refine si77n (by rfl) _ _ (by rfl) W1 W1.heap.size rfl (by rfl) e (by rfl) (by rfl) he32 ?_)
    refine ⟨alloc_bel' W1 _, ?_⟩
    rintro w2 hb2 hk2 hs2 heo2 ⟨v, ks, hI⟩
    have hs2' : w2.heap.size = W1.heap.size + 1 := by rw [hs2]; simp
    have A2 : Arr w2 W1.heap.size 71 e.arr := (hk2 _ hsz1).trans (Arr.new W1 71 e.arr)
    obtain ⟨sv1, nv1, cv1, rfl⟩ := hI.eo.slice
    have hkl : ks.length ≤ 900000000 := by
      have q := congrArg List.length hI.dat.out
      rw [dats_len, List.length_take, dats_len] at q; omega
    have hbase := hI.bel.size
    have hown := hI.o
    have hIa := hI.a
    have hIr := hI.r
    have hIz := hI.sz
    have hte := hid hte
    gi_wp2_with fail
    refine region_round (S := fun u => Arr u W1.heap.size 71 e.arr) (by kernel_rfl) (by kernel_rfl) A2.drew (fun hS => ?_)
    refine tl 1 rfl (y54 (by rfl) (.tmp 4) rfl W1.heap.size 0 rfl e he32 (fun u hu => rangeE hu)) ?_
    refine rd2 0 2 rfl rfl (fun K hK => ?_) (fun K hK => ?_)
    · have cc := (hIa.drew).cell 0; simp at cc
      go_simp
      go_wp2_with fail
      refine ko hK (A2.drew) (fun hS => ?_)
      clear cc
      refine rd 2 rfl (fun K hK => ?_)
      
      go_simp
      refine (copyOf_any e _ w2.drew (heo2.below (Below.refl _ _).drew)).mono ?_
      rintro r w5 ⟨sp5, cp5, rfl, ok5, hg5, hb5⟩
      have U5 : Below w2.heap.size w2 w5 := ((Below.refl _ _).drew).trans (hb5.mono (by simp))
      have hs5 := U5.size
      go_wp2_with fail
      refine ko hK (A2.below U5 A2.lt) (fun hS => ?_)
      refine rd 3 rfl (fun K hK => ?_)
      
      refine step_want rfl (wp_bldE (.tmp 19) rfl ⟨sp5, e.n, cp5, e.bs, e.sm⟩ rfl he32 ?_)
      have U6 := U5.alloc U5.size (.cells (En.arr ⟨sp5, e.n, cp5, e.bs, e.sm⟩) 71)
      have hs6 : (w5.alloc (.cells (En.arr ⟨sp5, e.n, cp5, e.bs, e.sm⟩) 71)).heap.size = w5.heap.size + 1 := by simp
      have A6 := Arr.new w5 71 (En.arr ⟨sp5, e.n, cp5, e.bs, e.sm⟩)
      have ok6 : EnOK (w5.alloc (.cells (En.arr ⟨sp5, e.n, cp5, e.bs, e.sm⟩) 71)).heap.size (w5.alloc (.cells (En.arr ⟨sp5, e.n, cp5, e.bs, e.sm⟩) 71)) ⟨sp5, e.n, cp5, e.bs, e.sm⟩ := (ok5.below (alloc_bel' w5 _)).mono (by simp)
      have E6 := hI.eo.below U6
      have AL6 := hIa.below U6 hIa.lt
      refine ko hK (A2.below U6 A2.lt) (fun hS => ?_)
      
      have hfr : ∀ b off, sp5 = some ⟨b, off, none⟩ → w2.heap.size ≤ b ∧ b < w5.heap.size := fun b off q => ⟨by have := (hg5 b off q).1; simpa using this, (hg5 b off q).2⟩
      refine rd 4 rfl (fun K hK => ?_)
      refine step_want rfl (wp_appE (.tmp 17) (.tmp 20) rfl g0 (g0 + 1) _ ks ⟨sp5, e.n, cp5, e.bs, e.sm⟩ rfl E6 w5.heap.size 1 rfl A6 ok6 (fun b off q => by have h1 := hfr b off q; exact ⟨by omega, by omega, fun q' => by have := own_lt hI.eo.own q'.symm; omega, by omega⟩) (by omega) (by omega) (fun v7 w7 hE7 hG7 hl7 => ?_))
      obtain ⟨sq7, mq7, cq7, hv7e⟩ := hE7.slice
      obtain ⟨v7', hv7d⟩ : ∃ u, u = v7 := ⟨_, rfl⟩
      subst hv7d
      subst hv7e
      have hs7 := hG7.size
      have hvl : ∀ b, (Value.slice sv1 nv1 cv1).ownBlock = some b → b < W1.heap.size + 1 ∧ b ≠ g0 + 1 ∧ b ≠ W1.heap.size := fun b q => by
        have h1 := hownlt b (by rw [hown]; exact .inl q)
        have h2 := hIr b q
        omega
      have AL7 := AL6.grown hG7 (fun q => (hvl _ q.symm).2.1 rfl)
      refine ko hK ((A2.below U6 A2.lt).grown hG7 (fun q => (hvl _ q.symm).2.2 rfl)) (fun hS => ?_)
      refine rd 5 rfl (fun K hK => ?_)
      have cc := AL7.cell 0; have fc := AL7.frozen 0; simp at cc
      go_simp
      go_wp2_with fail
      have AL8 := AL7.set 0 (.slice sq7 mq7 cq7)
      have AB8 := ((A2.below U6 A2.lt).grown hG7 (fun q => (hvl _ q.symm).2.2 rfl)).setOther (a := ⟨g0 + 1, 0, none⟩) (.slice sq7 mq7 cq7) (by show W1.heap.size ≠ g0 + 1; omega)
      have hv7 : ∀ b, (Value.slice sq7 mq7 cq7).ownBlock = some b → b = g0 ∨ g0 + 3 ≤ b := fun b h => by
        rcases hl7 with q | q
        · exact hIr b (q.symm.trans h)
        · rw [h] at q; have := Option.some.inj q; omega
      have hsam : Sam 0 (OWN (.slice sq7 mq7 cq7) (ks ++ [⟨sp5, e.n, cp5, e.bs, e.sm⟩])) w7 (w7.setCell ⟨g0 + 1, 0, none⟩ (.slice sq7 mq7 cq7)) := ⟨rfl, rfl, rfl, by simp [World.setCell], fun b hb ho => Below.heap_setCell _ _ _ _ (fun q => by
        have q : b = g0 + 1 := q
        rcases ho with ho | ho | ⟨f, hf, h0, off, q2⟩
        · omega
        · have hh := hv7 b ho; omega
        · exact (hE7.ap f hf b off q2).2.2.2 q)⟩
      have E8 := hE7.sam hsam
      have B8 : Below g0 w (w7.setCell ⟨g0 + 1, 0, none⟩ (.slice sq7 mq7 cq7)) := ((hI.bel.trans (U6.mono (by have := hI.bel.size; have := hg0.out; omega))).grown hG7 (by have := hI.bel.size; omega) (fun k q => own_ge hI.eo.own k q)).setCell (p := ⟨g0 + 1, 0, none⟩) (by show g0 ≤ g0 + 1; omega) _
      have hz8 : (w7.setCell ⟨g0 + 1, 0, none⟩ (.slice sq7 mq7 cq7)).heap.size = w7.heap.size := by simp [World.setCell]
      have hkeep : ∀ b, b < w2.heap.size → b ≠ g0 + 1 → (Value.slice sv1 nv1 cv1).ownBlock ≠ some b → (w7.setCell ⟨g0 + 1, 0, none⟩ (.slice sq7 mq7 cq7)).heap[b]? = w2.heap[b]? := fun b h1 h2 h3 => by
        rw [Below.heap_setCell _ _ _ _ h2, hG7.block b (by omega) (fun q => h3 q.symm)]
        exact U6.block b h1
      generalize w7.setCell ⟨g0 + 1, 0, none⟩ (.slice sq7 mq7 cq7) = W8 at *
      refine ko hK AB8 (fun hS => ?_)
      refine dn ?_
      refine q0n ?_
      refine ⟨OWN (.slice sq7 mq7 cq7) (ks ++ [⟨sp5, e.n, cp5, e.bs, e.sm⟩]), ⟨_, ks ++ [⟨sp5, e.n, cp5, e.bs, e.sm⟩], ⟨B8, ?_, rfl, by simpa using AL8, E8, ?_, hv7, by omega⟩⟩, ?_, by omega, ?_⟩
      · refine hI.m.sam (fun b hb hl => hkeep b hl (by omega) (fun q => ?_))
        have h1 := hIr b q
        have h2 := own_ge hI.eo.own b q
        rcases hb with hb | hb | hb <;> omega
      · refine hid ?_
        rw [dats_app, hI.dat.out, List.take_add_one]
        congr 1
        simp [dats, hte.out, En.dat]
      · intro b hb
        rcases hb with hb | ⟨f, hf, hq⟩
        · rcases hl7 with q | q
          · exact .inl (by rw [hown]; exact .inl (q.symm.trans hb))
          · rw [hb] at q; have := Option.some.inj q; exact .inr (.inl (by omega))
        · rcases List.mem_append.1 hf with hf | hf
          · exact .inl (by rw [hown]; exact .inr ⟨f, hf, hq⟩)
          · simp at hf; subst hf
            obtain ⟨-, off, q⟩ := hq
            exact .inr (.inl (by have := (hfr b off q).1; omega))
      · intro b hb1 hb2' hb3
        exact hkeep b (by omega) (by omega) (fun q => hb3 (by rw [hown]; exact .inl q))
    · go_simp
      refine (copyOf_any e _ w2.drew (heo2.below (Below.refl _ _).drew)).mono ?_
      rintro r w5 ⟨sp5, cp5, rfl, ok5, hg5, hb5⟩
      have U5 : Below w2.heap.size w2 w5 := ((Below.refl _ _).drew).trans (hb5.mono (by simp))
      have hs5 := U5.size
      go_wp2_with fail
      refine ko hK (A2.below U5 A2.lt) (fun hS => ?_)
      refine rd2 0 3 rfl rfl (fun K hK => ?_) (fun K hK => ?_)
      · have cc := (hIa.below U5 hIa.lt).cell 0; simp at cc
        go_simp
        go_wp2_with fail
        refine ko hK (A2.below U5 A2.lt) (fun hS => ?_)
        clear cc
        refine rd 3 rfl (fun K hK => ?_)
        
        refine step_want rfl (wp_bldE (.tmp 19) rfl ⟨sp5, e.n, cp5, e.bs, e.sm⟩ rfl he32 ?_)
        have U6 := U5.alloc U5.size (.cells (En.arr ⟨sp5, e.n, cp5, e.bs, e.sm⟩) 71)
        have hs6 : (w5.alloc (.cells (En.arr ⟨sp5, e.n, cp5, e.bs, e.sm⟩) 71)).heap.size = w5.heap.size + 1 := by simp
        have A6 := Arr.new w5 71 (En.arr ⟨sp5, e.n, cp5, e.bs, e.sm⟩)
        have ok6 : EnOK (w5.alloc (.cells (En.arr ⟨sp5, e.n, cp5, e.bs, e.sm⟩) 71)).heap.size (w5.alloc (.cells (En.arr ⟨sp5, e.n, cp5, e.bs, e.sm⟩) 71)) ⟨sp5, e.n, cp5, e.bs, e.sm⟩ := (ok5.below (alloc_bel' w5 _)).mono (by simp)
        have E6 := hI.eo.below U6
        have AL6 := hIa.below U6 hIa.lt
        refine ko hK (A2.below U6 A2.lt) (fun hS => ?_)
        
        have hfr : ∀ b off, sp5 = some ⟨b, off, none⟩ → w2.heap.size ≤ b ∧ b < w5.heap.size := fun b off q => ⟨by have := (hg5 b off q).1; simpa using this, (hg5 b off q).2⟩
        refine rd 4 rfl (fun K hK => ?_)
        refine step_want rfl (wp_appE (.tmp 17) (.tmp 20) rfl g0 (g0 + 1) _ ks ⟨sp5, e.n, cp5, e.bs, e.sm⟩ rfl E6 w5.heap.size 1 rfl A6 ok6 (fun b off q => by have h1 := hfr b off q; exact ⟨by omega, by omega, fun q' => by have := own_lt hI.eo.own q'.symm; omega, by omega⟩) (by omega) (by omega) (fun v7 w7 hE7 hG7 hl7 => ?_))
        obtain ⟨sq7, mq7, cq7, hv7e⟩ := hE7.slice
        obtain ⟨v7', hv7d⟩ : ∃ u, u = v7 := ⟨_, rfl⟩
        subst hv7d
        subst hv7e
        have hs7 := hG7.size
        have hvl : ∀ b, (Value.slice sv1 nv1 cv1).ownBlock = some b → b < W1.heap.size + 1 ∧ b ≠ g0 + 1 ∧ b ≠ W1.heap.size := fun b q => by
          have h1 := hownlt b (by rw [hown]; exact .inl q)
          have h2 := hIr b q
          omega
        have AL7 := AL6.grown hG7 (fun q => (hvl _ q.symm).2.1 rfl)
        refine ko hK ((A2.below U6 A2.lt).grown hG7 (fun q => (hvl _ q.symm).2.2 rfl)) (fun hS => ?_)
        refine rd 5 rfl (fun K hK => ?_)
        have cc := AL7.cell 0; have fc := AL7.frozen 0; simp at cc
        go_simp
        go_wp2_with fail
        have AL8 := AL7.set 0 (.slice sq7 mq7 cq7)
        have AB8 := ((A2.below U6 A2.lt).grown hG7 (fun q => (hvl _ q.symm).2.2 rfl)).setOther (a := ⟨g0 + 1, 0, none⟩) (.slice sq7 mq7 cq7) (by show W1.heap.size ≠ g0 + 1; omega)
        have hv7 : ∀ b, (Value.slice sq7 mq7 cq7).ownBlock = some b → b = g0 ∨ g0 + 3 ≤ b := fun b h => by
          rcases hl7 with q | q
          · exact hIr b (q.symm.trans h)
          · rw [h] at q; have := Option.some.inj q; omega
        have hsam : Sam 0 (OWN (.slice sq7 mq7 cq7) (ks ++ [⟨sp5, e.n, cp5, e.bs, e.sm⟩])) w7 (w7.setCell ⟨g0 + 1, 0, none⟩ (.slice sq7 mq7 cq7)) := ⟨rfl, rfl, rfl, by simp [World.setCell], fun b hb ho => Below.heap_setCell _ _ _ _ (fun q => by
          have q : b = g0 + 1 := q
          rcases ho with ho | ho | ⟨f, hf, h0, off, q2⟩
          · omega
          · have hh := hv7 b ho; omega
          · exact (hE7.ap f hf b off q2).2.2.2 q)⟩
        have E8 := hE7.sam hsam
        have B8 : Below g0 w (w7.setCell ⟨g0 + 1, 0, none⟩ (.slice sq7 mq7 cq7)) := ((hI.bel.trans (U6.mono (by have := hI.bel.size; have := hg0.out; omega))).grown hG7 (by have := hI.bel.size; omega) (fun k q => own_ge hI.eo.own k q)).setCell (p := ⟨g0 + 1, 0, none⟩) (by show g0 ≤ g0 + 1; omega) _
        have hz8 : (w7.setCell ⟨g0 + 1, 0, none⟩ (.slice sq7 mq7 cq7)).heap.size = w7.heap.size := by simp [World.setCell]
        have hkeep : ∀ b, b < w2.heap.size → b ≠ g0 + 1 → (Value.slice sv1 nv1 cv1).ownBlock ≠ some b → (w7.setCell ⟨g0 + 1, 0, none⟩ (.slice sq7 mq7 cq7)).heap[b]? = w2.heap[b]? := fun b h1 h2 h3 => by
          rw [Below.heap_setCell _ _ _ _ h2, hG7.block b (by omega) (fun q => h3 q.symm)]
          exact U6.block b h1
        generalize w7.setCell ⟨g0 + 1, 0, none⟩ (.slice sq7 mq7 cq7) = W8 at *
        refine ko hK AB8 (fun hS => ?_)
        refine dn ?_
        refine q0n ?_
        refine ⟨OWN (.slice sq7 mq7 cq7) (ks ++ [⟨sp5, e.n, cp5, e.bs, e.sm⟩]), ⟨_, ks ++ [⟨sp5, e.n, cp5, e.bs, e.sm⟩], ⟨B8, ?_, rfl, by simpa using AL8, E8, ?_, hv7, by omega⟩⟩, ?_, by omega, ?_⟩
        · refine hI.m.sam (fun b hb hl => hkeep b hl (by omega) (fun q => ?_))
          have h1 := hIr b q
          have h2 := own_ge hI.eo.own b q
          rcases hb with hb | hb | hb <;> omega
        · refine hid ?_
          rw [dats_app, hI.dat.out, List.take_add_one]
          congr 1
          simp [dats, hte.out, En.dat]
        · intro b hb
          rcases hb with hb | ⟨f, hf, hq⟩
          · rcases hl7 with q | q
            · exact .inl (by rw [hown]; exact .inl (q.symm.trans hb))
            · rw [hb] at q; have := Option.some.inj q; exact .inr (.inl (by omega))
          · rcases List.mem_append.1 hf with hf | hf
            · exact .inl (by rw [hown]; exact .inr ⟨f, hf, hq⟩)
            · simp at hf; subst hf
              obtain ⟨-, off, q⟩ := hq
              exact .inr (.inl (by have := (hfr b off q).1; omega))
        · intro b hb1 hb2' hb3
          exact hkeep b (by omega) (by omega) (fun q => hb3 (by rw [hown]; exact .inl q))
      · refine step_want rfl (wp_bldE (.tmp 19) rfl ⟨sp5, e.n, cp5, e.bs, e.sm⟩ rfl he32 ?_)
        have U6 := U5.alloc U5.size (.cells (En.arr ⟨sp5, e.n, cp5, e.bs, e.sm⟩) 71)
        have hs6 : (w5.alloc (.cells (En.arr ⟨sp5, e.n, cp5, e.bs, e.sm⟩) 71)).heap.size = w5.heap.size + 1 := by simp
        have A6 := Arr.new w5 71 (En.arr ⟨sp5, e.n, cp5, e.bs, e.sm⟩)
        have ok6 : EnOK (w5.alloc (.cells (En.arr ⟨sp5, e.n, cp5, e.bs, e.sm⟩) 71)).heap.size (w5.alloc (.cells (En.arr ⟨sp5, e.n, cp5, e.bs, e.sm⟩) 71)) ⟨sp5, e.n, cp5, e.bs, e.sm⟩ := (ok5.below (alloc_bel' w5 _)).mono (by simp)
        have E6 := hI.eo.below U6
        have AL6 := hIa.below U6 hIa.lt
        refine ko hK (A2.below U6 A2.lt) (fun hS => ?_)
        refine rd 0 rfl (fun K hK => ?_)
        have cc := (AL6).cell 0; simp at cc
        go_simp
        go_wp2_with fail
        refine ko hK (A2.below U6 A2.lt) (fun hS => ?_)
        clear cc
        
        have hfr : ∀ b off, sp5 = some ⟨b, off, none⟩ → w2.heap.size ≤ b ∧ b < w5.heap.size := fun b off q => ⟨by have := (hg5 b off q).1; simpa using this, (hg5 b off q).2⟩
        refine rd 4 rfl (fun K hK => ?_)
        refine step_want rfl (wp_appE (.tmp 17) (.tmp 20) rfl g0 (g0 + 1) _ ks ⟨sp5, e.n, cp5, e.bs, e.sm⟩ rfl E6 w5.heap.size 1 rfl A6 ok6 (fun b off q => by have h1 := hfr b off q; exact ⟨by omega, by omega, fun q' => by have := own_lt hI.eo.own q'.symm; omega, by omega⟩) (by omega) (by omega) (fun v7 w7 hE7 hG7 hl7 => ?_))
        obtain ⟨sq7, mq7, cq7, hv7e⟩ := hE7.slice
        obtain ⟨v7', hv7d⟩ : ∃ u, u = v7 := ⟨_, rfl⟩
        subst hv7d
        subst hv7e
        have hs7 := hG7.size
        have hvl : ∀ b, (Value.slice sv1 nv1 cv1).ownBlock = some b → b < W1.heap.size + 1 ∧ b ≠ g0 + 1 ∧ b ≠ W1.heap.size := fun b q => by
          have h1 := hownlt b (by rw [hown]; exact .inl q)
          have h2 := hIr b q
          omega
        have AL7 := AL6.grown hG7 (fun q => (hvl _ q.symm).2.1 rfl)
        refine ko hK ((A2.below U6 A2.lt).grown hG7 (fun q => (hvl _ q.symm).2.2 rfl)) (fun hS => ?_)
        refine rd 5 rfl (fun K hK => ?_)
        have cc := AL7.cell 0; have fc := AL7.frozen 0; simp at cc
        go_simp
        go_wp2_with fail
        have AL8 := AL7.set 0 (.slice sq7 mq7 cq7)
        have AB8 := ((A2.below U6 A2.lt).grown hG7 (fun q => (hvl _ q.symm).2.2 rfl)).setOther (a := ⟨g0 + 1, 0, none⟩) (.slice sq7 mq7 cq7) (by show W1.heap.size ≠ g0 + 1; omega)
        have hv7 : ∀ b, (Value.slice sq7 mq7 cq7).ownBlock = some b → b = g0 ∨ g0 + 3 ≤ b := fun b h => by
          rcases hl7 with q | q
          · exact hIr b (q.symm.trans h)
          · rw [h] at q; have := Option.some.inj q; omega
        have hsam : Sam 0 (OWN (.slice sq7 mq7 cq7) (ks ++ [⟨sp5, e.n, cp5, e.bs, e.sm⟩])) w7 (w7.setCell ⟨g0 + 1, 0, none⟩ (.slice sq7 mq7 cq7)) := ⟨rfl, rfl, rfl, by simp [World.setCell], fun b hb ho => Below.heap_setCell _ _ _ _ (fun q => by
          have q : b = g0 + 1 := q
          rcases ho with ho | ho | ⟨f, hf, h0, off, q2⟩
          · omega
          · have hh := hv7 b ho; omega
          · exact (hE7.ap f hf b off q2).2.2.2 q)⟩
        have E8 := hE7.sam hsam
        have B8 : Below g0 w (w7.setCell ⟨g0 + 1, 0, none⟩ (.slice sq7 mq7 cq7)) := ((hI.bel.trans (U6.mono (by have := hI.bel.size; have := hg0.out; omega))).grown hG7 (by have := hI.bel.size; omega) (fun k q => own_ge hI.eo.own k q)).setCell (p := ⟨g0 + 1, 0, none⟩) (by show g0 ≤ g0 + 1; omega) _
        have hz8 : (w7.setCell ⟨g0 + 1, 0, none⟩ (.slice sq7 mq7 cq7)).heap.size = w7.heap.size := by simp [World.setCell]
        have hkeep : ∀ b, b < w2.heap.size → b ≠ g0 + 1 → (Value.slice sv1 nv1 cv1).ownBlock ≠ some b → (w7.setCell ⟨g0 + 1, 0, none⟩ (.slice sq7 mq7 cq7)).heap[b]? = w2.heap[b]? := fun b h1 h2 h3 => by
          rw [Below.heap_setCell _ _ _ _ h2, hG7.block b (by omega) (fun q => h3 q.symm)]
          exact U6.block b h1
        generalize w7.setCell ⟨g0 + 1, 0, none⟩ (.slice sq7 mq7 cq7) = W8 at *
        refine ko hK AB8 (fun hS => ?_)
        refine dn ?_
        refine q0n ?_
        refine ⟨OWN (.slice sq7 mq7 cq7) (ks ++ [⟨sp5, e.n, cp5, e.bs, e.sm⟩]), ⟨_, ks ++ [⟨sp5, e.n, cp5, e.bs, e.sm⟩], ⟨B8, ?_, rfl, by simpa using AL8, E8, ?_, hv7, by omega⟩⟩, ?_, by omega, ?_⟩
        · refine hI.m.sam (fun b hb hl => hkeep b hl (by omega) (fun q => ?_))
          have h1 := hIr b q
          have h2 := own_ge hI.eo.own b q
          rcases hb with hb | hb | hb <;> omega
        · refine hid ?_
          rw [dats_app, hI.dat.out, List.take_add_one]
          congr 1
          simp [dats, hte.out, En.dat]
        · intro b hb
          rcases hb with hb | ⟨f, hf, hq⟩
          · rcases hl7 with q | q
            · exact .inl (by rw [hown]; exact .inl (q.symm.trans hb))
            · rw [hb] at q; have := Option.some.inj q; exact .inr (.inl (by omega))
          · rcases List.mem_append.1 hf with hf | hf
            · exact .inl (by rw [hown]; exact .inr ⟨f, hf, hq⟩)
            · simp at hf; subst hf
              obtain ⟨-, off, q⟩ := hq
              exact .inr (.inl (by have := (hfr b off q).1; omega))
        · intro b hb1 hb2' hb3
          exact hkeep b (by omega) (by omega) (fun q => hb3 (by rw [hown]; exact .inl q))
  · rintro own W' o ⟨v, ks, hI⟩ hoD hsz2 hdf
    obtain ⟨sv1, nv1, cv1, rfl⟩ := hI.eo.slice
    have hz := hI.sz
    have L7 := hI.a.put o (show g0 + 1 ≠ g0 + 3 + 1 by omega)
    have c7 := L7.cell 0
    simp at c7
    have hs1 : Sam 0 (OWN (.slice sv1 nv1 cv1) ks) W' (W'.putObj (g0 + 3 + 1) o) := sam_put (by omega) (by rw [← hI.o]; exact hoD.2) o
    have hs2 : Sam 0 (OWN (.slice sv1 nv1 cv1) ks) (W'.putObj (g0 + 3 + 1) o) ((W'.putObj (g0 + 3 + 1) o).putObj (g0 + 3) (.deferred none)) := sam_put (by omega) (by rw [← hI.o]; exact hoD.1) _
    have hE8 := hI.eo.sam (hs1.trans hs2)
    have hK8 : (W'.putObj (g0 + 3 + 1) o).heap[g0 + 3]? = some (.deferred (some [])) := (World.putObj_heap_other (by omega)).trans hdf
    have hB8 : Below g0 w ((W'.putObj (g0 + 3 + 1) o).putObj (g0 + 3) (.deferred none)) := below_put (below_put hI.bel (by omega) _) (by omega) _
    have hdat := hid (show dats ks = dats es by rw [hI.dat.out, List.take_of_length_le (by rw [dats_len, ← hn.out]; exact Nat.le_refl _)])
    clear hs1 hs2
    gi_wp2
    refine ⟨by simp, .inl ⟨_, _, rfl, run_takeDeferred hK8, ?_⟩⟩
    exact ⟨_, results_tmp rfl _ _ _, g0 + 1, _, ks, rfl, by rw [← hg0.out]; exact hE8, hdat.out, by rw [← hg0.out]; exact hB8⟩
end Go.Proofs.Ytbfelelngoonjaa
