/- Po, Pp. -/
import Derived.Test.YtlebojbfcolkhaaPn
/- Layer state: a range over entries that are told. -/
namespace Go.Proofs.Ytlebojbfcolkhaa
open Go.RowKit Go.Shelf
set_option maxRecDepth 100000
set_option linter.unusedVariables false
set_option linter.unusedSimpArgs false
attribute [local go_sem] Oper.semAt_some

theorem Tells.weaken {gf : Nat} {lb : Array Value} {S0 B0 : Nat} {M M' : World → Prop} {T T' : Nat → En → Prop} {n : Nat} (h : Tells gf lb S0 B0 M T n) (hM : ∀ W, M' W → M W) (hT : ∀ j e, T j e → T' j e) : Tells gf lb S0 B0 M' T' n :=
  fun k lp J h1 h2 h3 W own h0 => h k lp J (fun j own W hJ => ⟨hM W (h1 j own W hJ).1, (h1 j own W hJ).2⟩) h2 (fun j own W e hJ hj he ht hq => h3 j own W e hJ hj he (hT j e ht) hq) W own h0
theorem roundIn_any {l n n' lp : Nat} {f : FuncId} {tmps : Array Value} {assign body : Code} {w : World} {R : Ending → World → Prop} (h : RoundIn Fence.wide n Try.prog lp f tmps assign body w R) : RoundIn (Fence.wide.inRound l) n' Try.prog lp f tmps assign body w R :=
  ⟨trivial, fun c cs _ => h.2 c cs (fun d hd => by cases hd)⟩
theorem yield_at1 {l m : Nat} {t : Tmp} {rc : Loop} {W : World} {R : Ending → World → Prop} (x : Value) (hl : W.heap[l]? = some (.loop rc)) (hp : rc.params = #[t])
    (h : rc.assign.wpIn (Fence.wide.inRound l) m Try.prog (Exit.then (fun a₁ w₁ => ∃ w₂, (Instr.beginRound l).run Try.prog w₁ = .ok () w₂ ∧ rc.body.wpIn (Fence.wide.inRound l) m Try.prog (roundPost Try.prog l R) a₁ w₂) (fun _ _ _ => False)) { tmps := rc.tmps.setIfInBounds t x, defers := [] } W) :
    YieldAt Fence.wide m Try.prog l #[x] W R :=
  ⟨_, _, _, _, run_yield hl (by rw [hp]; rfl), roundIn_of_wpIn trivial (by rw [hp]; simpa using h)⟩
theorem wp_range1 {k : Nat} {g : Operand} {ts : Array Tmp} {assign body : Code} {Q : Exit → Act → World → Prop} {a : Act} {W0 : World} (gf : Nat) (lb : Array Value) (hg : a.eval g = .func (.func gf) #[] lb) (eg : ∀ args w, (callFunc gf args).run Try.prog w = .ok (.enter gf args) w)
    (I : World → Prop)
    (hcall : ∀ rc : Loop, rc.state = .ready → rc.pending = none → rc.params = ts → rc.tmps = a.tmps → rc.assign = assign → rc.body = body →
      CallsIn Fence.wide (k - 1) Try.prog gf (#[.func (.yield (W0.heap.size + 1)) #[] #[]] ++ lb) ((W0.alloc (.deferred (some []))).alloc (.loop rc)) fun e W' => (∃ v, e = .returned v) ∧ I W' ∧ W'.heap[W0.heap.size + 1]? = some (.loop rc) ∧ W'.heap[W0.heap.size]? = some (.deferred (some [])))
    (hdone : ∀ W' o, I W' → W'.heap[W0.heap.size]? = some (.deferred (some [])) → Q .normal { a with defers := { target := .collected W0.heap.size, args := #[] } :: a.defers } (W'.putObj (W0.heap.size + 1) o)) :
    (Code.rangeFunc g ts assign body).wpIn Fence.wide k Try.prog Q a W0 := by
  refine wpIn_rangeFunc fun fn hfn => ?_
  have hent := run_enterLoop_outer (P := Try.prog) (w := W0) fn a.tmps ts assign body
  obtain ⟨rc, hrc⟩ : ∃ rc : Loop, rc = { state := .ready, pending := none, fn, tmps := a.tmps, params := ts, assign, body, defers := W0.heap.size } := ⟨_, rfl⟩
  rw [← hrc] at hent
  refine ⟨_, _, _, { target := .fn (.func gf) lb, args := #[.func (.yield (W0.heap.size + 1)) #[] #[]] }, (W0.alloc (.deferred (some []))).alloc (.loop rc), gf, #[.func (.yield (W0.heap.size + 1)) #[] #[]] ++ lb, (W0.alloc (.deferred (some []))).alloc (.loop rc), hent, ?_, fun _ _ => trivial, ?_, fun h => (by cases h), ?_⟩
  · simp only [resolve, hg]
    simp [go_sem]
  · simp [invoke, go_sem, eg]
  · refine (hcall rc (by rw [hrc]) (by rw [hrc]) (by rw [hrc]) (by rw [hrc]) (by rw [hrc]) (by rw [hrc])).mono ?_
    rintro e W2 ⟨⟨v, rfl⟩, hI, hl, hk⟩
    have hend := run_endLoop (P := Try.prog) hl (by rw [hrc]; simp)
    rw [show rc.pending = none by rw [hrc]] at hend
    exact ⟨none, _, hend, hdone W2 _ hI hk⟩
theorem cell_def {W : World} {b o : Nat} {x : Option (List Deferred)} (h : W.heap[b]? = some (.deferred x)) : W.cell? ⟨b, o, none⟩ = none := by simp [World.cell?, h]
theorem cell_loop {W : World} {b o : Nat} {r : Loop} (h : W.heap[b]? = some (.loop r)) : W.cell? ⟨b, o, none⟩ = none := by simp [World.cell?, h]
/-- An entry is as it was where one block that holds no cells has changed. -/
theorem EnOK.put {W W1 w2 : World} {l : Nat} {r : Loop} {e : En} (h : EnOK W.heap.size W e) (hl : W.heap[l]? = some (.loop r)) (hb : ∀ b, b < W.heap.size → b ≠ l → w2.heap[b]? = W.heap[b]?) (hs : W.heap.size ≤ w2.heap.size) : EnOK w2.heap.size w2 e := by
  refine ⟨h.body.same hs (fun b off h0 q hbN => hb b hbN (fun e' => ?_)), h.s32⟩
  subst e'
  obtain ⟨b', off', q', -, hB⟩ := h.body.at0 h0
  rw [q] at q'; cases q'
  have := hB 0 h0
  rw [cell_loop hl] at this
  cases this
theorem sam_put {S0 g : Nat} {own : Nat → Prop} {W : World} (hg : S0 ≤ g) (ho : ¬ own g) (o : Obj) : Sam S0 own W (W.putObj g o) :=
  ⟨rfl, rfl, rfl, by simp, fun b hb hbo => World.putObj_heap_other (fun e => by subst e; rcases hbo with h | h; omega; exact ho h)⟩
/-- The whole loop over an iterator of entries. -/
theorem range_one {k : Nat} {g : Operand} {t : Tmp} {assign body : Code} {Q : Exit → Act → World → Prop} {a : Act} {W0 : World} (gf : Nat) (lb : Array Value) (D : Nat) (hD : W0.heap.size = D) (hg : a.eval g = .func (.func gf) #[] lb) (eg : ∀ args w, (callFunc gf args).run Try.prog w = .ok (.enter gf args) w)
    (n B0 : Nat) (T : Nat → En → Prop) (M : World → Prop) (ht : Tells gf lb (D + 2) B0 M T n)
    (I : Nat → (Nat → Prop) → World → Prop) (hIM : ∀ j own W, I j own W → M W ∧ ∀ b, own b → b < W.heap.size) (hIB : ∀ j own W W', I j own W → Sam D own W W' → I j own W') (own0 : Nat → Prop) (h0 : I 0 own0 W0)
    (hround : ∀ j own W e, I j own W → j < n → D + 2 ≤ W.heap.size → EnOK W.heap.size W e → T j e → (∀ b, EB e b → b < B0 ∨ ¬ own b) → ∀ m,
      assign.wpIn (Fence.wide.inRound (D + 1)) m Try.prog (Exit.then (fun a1 w1 => Below W.heap.size W w1 ∧ ∀ w2, Below (D + 1) w1 w2 → (∀ b, D + 2 ≤ b → w2.heap[b]? = w1.heap[b]?) → w2.heap.size = w1.heap.size → EnOK w2.heap.size w2 e → I j own w2 →
        body.wpIn (Fence.wide.inRound (D + 1)) m Try.prog (Exit.then (fun a3 w3 => ∃ own', I (j + 1) own' w3 ∧ (∀ b, own' b → own b ∨ W.heap.size ≤ b ∨ EB e b) ∧ w2.heap.size ≤ w3.heap.size ∧ ∀ b, D ≤ b → b < W.heap.size → ¬ own b → w3.heap[b]? = w2.heap[b]?) (fun _ _ _ => False)) a1 w2) (fun _ _ _ => False))
        { tmps := a.tmps.setIfInBounds t (.agg e.arr), defers := [] } W)
    (hdone : ∀ own W' o, I n own W' → (¬ own D ∧ ¬ own (D + 1)) → D + 2 ≤ W'.heap.size → W'.heap[D]? = some (.deferred (some [])) → Q .normal { a with defers := { target := .collected D, args := #[] } :: a.defers } (W'.putObj (D + 1) o)) :
    (Code.rangeFunc g #[t] assign body).wpIn Fence.wide k Try.prog Q a W0 := by
  refine wp_range1 gf lb hg eg (fun W => ∃ own, I n own W ∧ (¬ own D ∧ ¬ own (D + 1)) ∧ D + 2 ≤ W.heap.size) ?_ (fun W' o h1 h2 => by rw [hD] at h2 ⊢; obtain ⟨own, a1, a2, a3⟩ := h1; exact hdone own W' o a1 a2 a3 h2)
  intro rc h1 hpend h2 h3 h4 h5
  rw [hD]
  refine (ht (k - 1) (D + 1) (fun j own W => I j own W ∧ W.heap[D]? = some (.deferred (some [])) ∧ W.heap[D + 1]? = some (.loop rc) ∧ D + 2 ≤ W.heap.size ∧ ¬ own D ∧ ¬ own (D + 1)) ?hJc ?hJB ?hY _ own0 ?h0).mono ?fin
  case hJc => exact fun j own W h => ⟨(hIM j own W h.1).1, h.2.2.2.1, (hIM j own W h.1).2⟩
  case hJB => exact fun j own W W' h hb => ⟨hIB j own W W' h.1 (hb.lift (by omega)), (hb.block D (by have := h.2.2.2.1; omega) (.inl (by omega))).trans h.2.1, (hb.block (D + 1) (by have := h.2.2.2.1; omega) (.inl (by omega))).trans h.2.2.1, Nat.le_trans h.2.2.2.1 hb.size, h.2.2.2.2⟩
  case fin =>
    rintro e W' ⟨hv, own, hI, hdf, hlp, hsz, ho⟩
    exact ⟨hv, ⟨own, hI, ho, hsz⟩, hlp, hdf⟩
  case h0 =>
    have hb : Below W0.heap.size W0 ((W0.alloc (.deferred (some []))).alloc (.loop rc)) := (alloc_bel' W0 _).alloc (by simp) _
    have ho := (hIM 0 own0 W0 h0).2
    refine ⟨hIB 0 own0 W0 _ h0 (Sam.of hb), ?_, ?_, by simp; omega, fun h => by have := ho _ h; omega, fun h => by have := ho _ h; omega⟩
    · rw [Below.heap_alloc _ _ _ (by simp; omega), ← hD]; exact heap_alloc_new W0 _
    · have := heap_alloc_new (W0.alloc (.deferred (some []))) (.loop rc)
      rwa [World.size_alloc, hD] at this
  case hY =>
    rintro j own W e ⟨hI, hdf, hlp, hsz, ho1, ho2⟩ hj heo hte hqe
    refine yield_at1 _ hlp h2 ?_
    rw [h3, h4, h5]
    refine wpIn_mono (hround j own W e hI hj hsz heo hte hqe _) ?_
    intro q a1 w1 hq
    cases q with
    | normal =>
      obtain ⟨hb1, hbody⟩ := hq
      have hl1 : w1.heap[D + 1]? = some (.loop rc) := (hb1.block _ (by omega)).trans hlp
      have hs1 := hb1.size
      refine ⟨_, run_beginRound hl1 h1, ?_⟩
      have hs2 : (w1.putObj (D + 1) (.loop { rc with state := .busy })).heap.size = w1.heap.size := by simp
      refine wpIn_mono (hbody _ (below_put (Below.refl _ _) (Nat.le_refl _) _) (fun b hb => World.putObj_heap_other (by omega)) hs2 (heo.put (W1 := W) hlp (fun b hb hne => (World.putObj_heap_other hne).trans (hb1.block b hb)) (by omega)) (hIB j own W _ hI ((Sam.of hb1).trans (sam_put (by omega) ho2 _)))) ?_
      intro q a3 w3 hq3
      cases q with
      | normal =>
        obtain ⟨own', hI3, hown', hs3, hk3⟩ := hq3
        rw [hs2] at hs3
        have no1 : ¬ own' D := fun h => by rcases hown' _ h with h | h | h; exact ho1 h; omega; obtain ⟨off, x, hc⟩ := h.cell heo; rw [cell_def hdf] at hc; cases hc
        have no2 : ¬ own' (D + 1) := fun h => by rcases hown' _ h with h | h | h; exact ho2 h; omega; obtain ⟨off, x, hc⟩ := h.cell heo; rw [cell_loop hlp] at hc; cases hc
        have l3 : w3.heap[D + 1]? = some (.loop { rc with state := .busy }) := (hk3 _ (by omega) (by omega) ho2).trans (World.putObj_heap_same (by omega))
        refine ⟨_, _, run_endRound none l3, rfl, own', ⟨?_, ?_, ?_, ?_, no1, no2⟩, hown', ?_⟩
        · exact hIB (j + 1) own' w3 _ hI3 (sam_put (by omega) no2 _)
        · rw [World.putObj_heap_other (by omega), hk3 D (Nat.le_refl _) (by omega) ho1, World.putObj_heap_other (by omega)]
          exact (hb1.block D (by omega)).trans hdf
        · rw [World.putObj_heap_same (by omega)]
          obtain ⟨st, pe, fn', tm, ps, asg, bd, df⟩ := rc
          cases h1; cases hpend
          rfl
        · simp; omega
        · intro b hb1' hb2 hb3
          rw [World.putObj_heap_other (by omega), hk3 b (by omega) (by omega) hb3, World.putObj_heap_other (by omega)]
          exact hb1.block b hb2
      | _ => exact hq3.elim
    | _ => exact hq.elim
end Go.Proofs.Ytlebojbfcolkhaa
/- Layer state: parts that are told one behind the other. -/
namespace Go.Proofs.Ytlebojbfcolkhaa
open Go.RowKit Go.Shelf
set_option maxRecDepth 100000
set_option linter.unusedVariables false
set_option linter.unusedSimpArgs false
attribute [local go_sem] Oper.semAt_some

/-- A part: an iterator, what it wants of the memory, what it tells. -/
structure Part where
  gf : Nat
  lb : Array Value
  M : World → Prop
  T : Nat → En → Prop
  n : Nat
structure Part.OK (p : Part) (S0 : Nat) : Prop where
  tells : ∀ S, S0 ≤ S → Tells p.gf p.lb S S0 p.M p.T p.n
  ent : ∀ args w, (callFunc p.gf args).run Try.prog w = .ok (.enter p.gf args) w
/-- How many the first i parts tell. -/
def sumN (ps : List Part) (i : Nat) : Nat := ((ps.take i).map Part.n).sum
theorem sumN_succ {ps : List Part} {i : Nat} {p : Part} (h : ps[i]? = some p) : sumN ps (i + 1) = sumN ps i + p.n := by
  unfold sumN
  rw [List.take_add_one, h]
  simp
theorem sumN_le (ps : List Part) {i j : Nat} (h : i ≤ j) : sumN ps i ≤ sumN ps j := by
  induction j with
  | zero =>
    obtain rfl : i = 0 := by omega
    exact Nat.le_refl _
  | succ j ih =>
    by_cases e : i = j + 1
    · rw [e]; exact Nat.le_refl _
    · refine Nat.le_trans (ih (by omega)) ?_
      cases hp : ps[j]? with
      | none =>
        unfold sumN
        rw [List.take_add_one, hp]; simp
      | some p => rw [sumN_succ hp]; omega
def mkD (D : Nat) : Deferred := { target := .collected D, args := #[] }
theorem leaves_marks {k : Nat} {fn : Func} {tmps : Array Value} {R : Ending → World → Prop} (hf : fn.results = #[]) (S0 : Nat) (own : Nat → Prop) (J : World → Prop) (hJ : ∀ w w', J w → Sam S0 own w w' → J w') (hR : ∀ v w, J w → R (.returned v) w) :
    ∀ (ds : List Nat) (w : World), (∀ D ∈ ds, (S0 ≤ D ∧ ¬ own D) ∧ w.heap[D]? = some (.deferred (some []))) → ds.Nodup → J w → LeavesInM Fence.wide k Try.prog fn tmps R (ds.map mkD) .returning w
  | [], w, _, _, h => ⟨_, results_none hf _ _ _, hR _ w h⟩
  | D :: ds, w, hd, hn, h => by
    obtain ⟨h1, h2⟩ := hd D (by simp)
    refine ⟨by simp, .inl ⟨D, _, rfl, run_takeDeferred h2, ?_⟩⟩
    have hn' := List.nodup_cons.1 hn
    refine leaves_marks hf S0 own J hJ hR ds _ (fun D' hD' => ?_) hn'.2 (hJ w _ h (sam_put h1.1 h1.2 _))
    obtain ⟨a1, a2⟩ := hd D' (by simp [hD'])
    exact ⟨a1, (World.putObj_heap_other (fun e => by subst e; exact hn'.1 hD')).trans a2⟩
/-- What the loop over the parts keeps. -/
structure IT (S0 gy lp : Nat) (ps : List Part) (J : Nat → (Nat → Prop) → World → Prop) (i : Nat) (ds : List Nat) (own : Nat → Prop) (w : World) : Prop where
  j : J (sumN ps i) own w
  y : Arr w gy 154 #[.func (.yield lp) #[] #[]]
  yo : ¬ own gy
  d : ∀ D ∈ ds, (S0 ≤ D ∧ D ≠ gy ∧ ¬ own D) ∧ w.heap[D]? = some (.deferred (some []))
  nd : ds.Nodup
set_option maxHeartbeats 2000000 in
theorem inTurn_in (gc gp S0 B0 : Nat) (ps : List Part) (hgc : gc < S0) (hgp : gp < S0) (hBS : B0 ≤ S0) (h5 : ps.length = 5) (hok : ∀ p ∈ ps, p.OK B0) :
    Tells 100 #[.pointer (some ⟨gc, 0, none⟩)] S0 B0 (fun W => W.cell? ⟨gc, 0, none⟩ = some (.slice (some ⟨gp, 0, none⟩) 5 5) ∧ (∀ i p, ps[i]? = some p → W.cell? ⟨gp, i, none⟩ = some (.func (.func p.gf) #[] p.lb)) ∧ ∀ p ∈ ps, p.M W)
      (fun j e => ∃ i p, ps[i]? = some p ∧ sumN ps i ≤ j ∧ j < sumN ps i + p.n ∧ p.T (j - sumN ps i) e) (sumN ps 5) := by
  intro k lp J hJM hJB hY W own0 h0
  refine callsIn_of_wp_marks Try.func100 rfl trivial ?_ rfl
  simp only [Try.ntmps100, List.size_toArray, List.length_cons, List.length_nil, Nat.reduceAdd, Nat.reduceSub, Array.replicate_succ, Array.replicate_zero, List.push_toArray, List.append_toArray, List.nil_append, List.cons_append]
  obtain ⟨⟨c1, -, -⟩, hsz, ho0⟩ := hJM 0 own0 W h0
  have hb0 := alloc_bel' W (.cells #[.func (.yield lp) #[] #[]] 154)
  have c1' := (hb0.cell (p := ⟨gc, 0, none⟩) (by show gc < _; omega)).trans c1
  have A0 := Arr.new W 154 #[.func (.yield lp) #[] #[]]
  have hJ0 := hJB 0 own0 W _ h0 (Sam.of hb0)
  have IT0 : IT S0 W.heap.size lp ps J 0 [] own0 (W.alloc (.cells #[.func (.yield lp) #[] #[]] 154)) := ⟨by simpa [sumN] using hJ0, A0, fun h => by have := ho0 _ h; omega, (fun D hD => by cases hD), List.nodup_nil⟩
  obtain ⟨gy, hgy⟩ : ∃ gy, gy = W.heap.size := ⟨_, rfl⟩
  clear A0 hJ0 c1
  gi_wp2
  rw [← hgy] at IT0 ⊢
  have hgyS : S0 ≤ gy := by omega
  replace hgy := Hid.mk' hgy
  refine wpIn_loop (fun a w => ∃ (i : Nat) (ds : List Nat) (own : Nat → Prop) (x3 x4 x5 x9 x10 x11 x12 x13 x14 x15 x16 x17 x18 : Value), a = { tmps := #[.func (.yield lp) #[] #[], .pointer (some ⟨gc, 0, none⟩), .pointer (some ⟨gy, 0, none⟩), x3, x4, x5, .slice (some ⟨gp, 0, none⟩) 5 5, .int .i64 5, .int .i64 (i : Int), x9, x10, x11, x12, x13, x14, x15, x16, x17, x18], defers := ds.map mkD } ∧ i ≤ 5 ∧ IT S0 gy lp ps J i ds own w) (fun a _ => 5 - (intOf (a.tmps.getD 8 undef)).toNat) ?_ ?_
  · exact ⟨0, [], own0, _, _, _, _, _, _, _, _, _, _, _, _, _, rfl, by omega, IT0⟩
  · rintro a wr ⟨i, ds, own1, x3, x4, x5, x9, x10, x11, x12, x13, x14, x15, x16, x17, x18, rfl, hi, hIT⟩
    clear IT0 h0 hb0 c1'
    obtain ⟨⟨c1, c2, -⟩, hszr, ho1⟩ := hJM _ own1 wr hIT.j
    by_cases hlt : i < 5
    · have hI : (i : Int) < 5 := by omega
      obtain ⟨p, hp⟩ : ∃ p, ps[i]? = some p := ⟨ps[i]'(by omega), List.getElem?_eq_getElem _⟩
      have hpm := List.mem_of_getElem? hp
      have hpo := hok p hpm
      have c3 := c2 i p hp
      clear c2
      have hsn := sumN_succ hp
      replace hp := Hid.mk' hp
      replace hsn := Hid.mk' hsn
      have hgyl := hIT.y.lt
      gi_wp2
      refine range_one p.gf p.lb wr.heap.size rfl (by rfl) hpo.ent p.n B0 p.T p.M (hpo.tells _ (by omega)) (fun j own W' => J (sumN ps i + j) own W' ∧ Arr W' gy 154 #[.func (.yield lp) #[] #[]] ∧ ¬ own gy ∧ (∀ D ∈ ds, ¬ own D ∧ W'.heap[D]? = some (.deferred (some []))) ∧ wr.heap.size ≤ W'.heap.size) ?_ ?_ own1 ?_ ?_ ?_
      · rintro j own W' ⟨hj, -⟩
        exact ⟨(hJM _ own W' hj).1.2.2 p hpm, (hJM _ own W' hj).2.2⟩
      · rintro j own W1 W2 ⟨hj, hy, hyo, hd, hs⟩ hb
        exact ⟨hJB _ _ _ _ hj (hb.lift hszr), (hb.block gy (by omega) (.inl (by omega))).trans hy, hyo, fun D hD => ⟨(hd D hD).1, (hb.block D (by have := (Array.getElem?_eq_some_iff.1 (hIT.d D hD).2).1; omega) (.inl (Array.getElem?_eq_some_iff.1 (hIT.d D hD).2).1)).trans (hd D hD).2⟩, Nat.le_trans hs hb.size⟩
      · exact ⟨hIT.j, hIT.y, hIT.yo, fun D hD => ⟨(hIT.d D hD).1.2.2, (hIT.d D hD).2⟩, Nat.le_refl _⟩
      · rintro j own W1 e ⟨hj, hy, hyo, hd, hs⟩ hjn hsz1 heo hte hqe m
        have he32 := heo.s32
        simp only [List.setIfInBounds_toArray, List.set_cons_zero, List.set_cons_succ]
        gi_wp2_with (refine si77n (by rfl) _ _ (by rfl) W1 W1.heap.size rfl (by rfl) e (by rfl) (by rfl) he32 ?_)
        refine ⟨alloc_bel' W1 _, ?_⟩
        intro w2 hb2 hk2 hs2 heo2 hI2
        have hs2' : w2.heap.size = W1.heap.size + 1 := by rw [hs2]; simp
        obtain ⟨hJ2, y2A, -, hd2, -⟩ := hI2
        have y2 := y2A.cell 0
        have A2 : Arr w2 W1.heap.size 77 e.arr := (hk2 _ hsz1).trans (Arr.new W1 77 e.arr)
        obtain ⟨fn, tmps, assign, body, hyi, hR⟩ := hY _ own w2 e hJ2 (by
          have : sumN ps (i + 1) ≤ sumN ps 5 := sumN_le ps (by omega)
          have := hsn.out
          omega) heo2 ⟨i, p, hp.out, by omega, by omega, by rw [Nat.add_sub_cancel_left]; exact hte⟩ hqe
        have hngy : ¬ EB e gy := fun h => by
          obtain ⟨off, x, hc⟩ := h.cell heo2
          rw [y2A.cell] at hc
          match off, hc with
          | 0, hc => simp at hc
          | off + 1, hc => simp at hc
        simp at y2
        gi_wp2_with (refine li77 (by rfl) _ (by rfl) W1.heap.size 0 (by rfl) e he32 (rangeE A2) ?_)
        refine ⟨fun h => (by cases h), (roundIn_any hR).mono ?_⟩
        rintro r W3 ⟨rfl, own3, hJ3, hown3, hkeep⟩
        gi_wp2
        have hj2 := (hJM _ own w2 hJ2).2.2
        have hj0 := (hJM _ own W1 hj).2.2
        have hs3 : w2.heap.size ≤ W3.heap.size := by
          have h := hkeep W1.heap.size (by omega) (by omega) (fun ho => by have := hj0 _ ho; omega)
          have := (Array.getElem?_eq_some_iff.1 (h.trans A2)).1
          omega
        refine ⟨own3, ⟨hJ3, (hkeep gy hgyS (by omega) hyo).trans y2A, fun ho => by rcases hown3 _ ho with h | h | h; exact hyo h; omega; exact hngy h, fun D hD => ?_, by omega⟩, fun b hb => by rcases hown3 b hb with h | h | h; exact .inl h; exact .inr (.inl (by omega)); exact .inr (.inr h), hs3, fun b hb1 hb2' hb3 => hkeep b (by omega) (by omega) hb3⟩
        have hDl := (Array.getElem?_eq_some_iff.1 (hIT.d D hD).2).1
        exact ⟨fun ho => (by rcases hown3 _ ho with h | h | h; exact (hd D hD).1 h; omega; obtain ⟨off, x, hc⟩ := h.cell heo2; rw [cell_def (hd2 D hD).2] at hc; cases hc), (hkeep D (hIT.d D hD).1.1 (by omega) (hd D hD).1).trans (hd2 D hD).2⟩
      · rintro own W' o ⟨hj, hy, hyo, hd, hs⟩ hoD hsz2 hdf
        have hnD : ¬ own wr.heap.size := hoD.1
        gi_wp2
        refine ⟨⟨i + 1, wr.heap.size :: ds, own, _, _, _, _, _, _, _, _, _, _, _, _, _, rfl, by omega, ⟨?_, ?_, hyo, ?_, ?_⟩⟩, ?_⟩
        · rw [hsn.out]
          exact hJB _ _ _ _ hj (sam_put (by omega) hoD.2 _)
        · exact hy.put _ (by omega)
        · intro D hD
          rcases List.mem_cons.1 hD with rfl | hD
          · exact ⟨⟨hszr, by omega, hnD⟩, (World.putObj_heap_other (by omega)).trans hdf⟩
          · have hDl := (Array.getElem?_eq_some_iff.1 (hIT.d D hD).2).1
            exact ⟨⟨(hIT.d D hD).1.1, (hIT.d D hD).1.2.1, (hd D hD).1⟩, (World.putObj_heap_other (by omega)).trans (hd D hD).2⟩
        · refine List.nodup_cons.2 ⟨fun hD => ?_, hIT.nd⟩
          have hDl := (Array.getElem?_eq_some_iff.1 (hIT.d _ hD).2).1
          omega
        · simp [intOf]; omega
    · obtain rfl : i = 5 := by omega
      gi_wp2
      exact leaves_marks rfl S0 own1 (fun w => J (sumN ps 5) own1 w) (fun w w' h hb => hJB _ _ _ _ h hb) (fun v w h => ⟨⟨v, rfl⟩, own1, h⟩) ds wr (fun D hD => ⟨⟨(hIT.d D hD).1.1, (hIT.d D hD).1.2.2⟩, (hIT.d D hD).2⟩) hIT.nd hIT.j
end Go.Proofs.Ytlebojbfcolkhaa
