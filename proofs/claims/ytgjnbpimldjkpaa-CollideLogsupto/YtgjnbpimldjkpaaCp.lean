/- Layer collide: a range over two paths side by side; lowest. -/
import Derived.Test.YtgjnbpimldjkpaaCo
namespace Go.Proofs.Ytgjnbpimldjkpaa
open Go.RowKit Go.Shelf
set_option linter.unusedVariables false
set_option linter.unusedSimpArgs false
attribute [local go_sem] Oper.semAt_some

theorem range_side {g : Operand} {t u : Tmp} {assign body : Code} {Q : Exit → Act → World → Prop} {a : Act} {W0 : World} (D : Nat) (hD : W0.heap.size = D) (b1 b2 b3 b4 m : Nat) (A B : List Int) (sp sp' : Option Addr) (n cap cap' : Nat) (ls ls' : List (List Int)) (hA : A.length = 32) (hB : B.length = 32) (bA : Bts A) (bB : Bts B) (bl : ∀ Y ∈ ls, Bts Y) (bl' : ∀ Y ∈ ls', Bts Y) (hm : m ≤ 9223372036854775807) (hn : n ≤ 16)
    (hb : b1 < D ∧ b2 < D ∧ b3 < D ∧ b4 < D) (hg : a.eval g = .func (.func 46) #[] #[.pointer (some ⟨b1, 0, none⟩), .pointer (some ⟨b2, 0, none⟩), .pointer (some ⟨b3, 0, none⟩), .pointer (some ⟨b4, 0, none⟩)])
    (I : Nat → World → Prop) (X : World → Prop) (hIB : ∀ j W W', I j W → Below D W W' → I j W') (hXB : ∀ W o, X W → X (W.putObj (D + 1) o))
    (hIS : ∀ j W, I j W → D + 2 ≤ W.heap.size → SI b1 b2 b3 b4 m A B sp sp' n cap cap' ls ls' (D + 2) W) (h0 : I 0 W0)
    (hround : ∀ j W e f, I j W → (∃ Y, ls[j]? = some Y ∧ EP (D + 2) W e (pb (m / 2 ^ j) (nd m A ls j) Y)) → (∃ Y, ls'[j]? = some Y ∧ EP (D + 2) W f (pb (m / 2 ^ j) (nd m B ls' j) Y)) → D + 2 ≤ W.heap.size → ∀ k,
      assign.wpIn (Fence.wide.inRound (D + 1)) k Try.prog (Exit.then (fun a1 w1 => Below W.heap.size W w1 ∧ ∀ w2, Below (D + 1) w1 w2 → (∀ b, D + 2 ≤ b → w2.heap[b]? = w1.heap[b]?) → w2.heap.size = w1.heap.size →
        body.wpIn (Fence.wide.inRound (D + 1)) k Try.prog (fun ex a3 w3 => ((ex = .normal ∧ I (j + 1) w3) ∨ (ex = .ret ∧ X w3)) ∧ w2.heap.size ≤ w3.heap.size ∧ ∀ b, D ≤ b → b < w2.heap.size → w3.heap[b]? = w2.heap[b]?) a1 w2) (fun _ _ _ => False))
        { tmps := (a.tmps.setIfInBounds t (.agg e.arr)).setIfInBounds u (.agg f.arr), defers := [] } W)
    (hdone : ∀ W' o, I n W' → D + 2 ≤ W'.heap.size → W'.heap[D]? = some (.deferred (some [])) → Q .normal { a with defers := { target := .collected D, args := #[] } :: a.defers } (W'.putObj (D + 1) o))
    (hstop : ∀ W' o, X W' → D + 2 ≤ W'.heap.size → W'.heap[D]? = some (.deferred (some [])) → Q .ret { a with defers := { target := .collected D, args := #[] } :: a.defers } (W'.putObj (D + 1) o)) :
    (Code.rangeFunc g #[t, u] assign body).wpIn Fence.wide 3 Try.prog Q a W0 := by
  refine wp_range2x 46 #[.pointer (some ⟨b1, 0, none⟩), .pointer (some ⟨b2, 0, none⟩), .pointer (some ⟨b3, 0, none⟩), .pointer (some ⟨b4, 0, none⟩)] hg (enters_of Try.func46 (by kernel_rfl) rfl) (fun W => I n W ∧ D + 2 ≤ W.heap.size) (fun W => X W ∧ D + 2 ≤ W.heap.size) ?_ (fun W' o h1 h2 => by rw [hD] at h2 ⊢; exact hdone W' o h1.1 h1.2 h2) (fun W' o h1 h2 => by rw [hD] at h2 ⊢; exact hstop W' o h1.1 h1.2 h2)
  intro rc h1 hpend h2 h3 h4 h5
  rw [hD]
  refine (side_in 2 (D + 1) (D + 2) b1 b2 b3 b4 m A B sp sp' n cap cap' ls ls' hA hB bA bB bl bl' hm hn ⟨by omega, by omega, by omega, by omega⟩ (fun j W => I j W ∧ W.heap[D]? = some (.deferred (some [])) ∧ W.heap[D + 1]? = some (.loop rc) ∧ D + 2 ≤ W.heap.size)
    (fun W => X W ∧ W.heap[D]? = some (.deferred (some [])) ∧ W.heap[D + 1]? = some (.loop { rc with state := .done, pending := some .ret }) ∧ D + 2 ≤ W.heap.size) ?hJ ?hJB ?hY _ ?h0).mono ?fin
  case hJ => exact fun j W h => hIS j W h.1 h.2.2.2
  case hJB => exact fun j W W' h hb => ⟨hIB j W W' h.1 (hb.mono (by omega)), (hb.block D (by omega)).trans h.2.1, (hb.block (D + 1) (by omega)).trans h.2.2.1, Nat.le_trans h.2.2.2 hb.size⟩
  case fin =>
    rintro e W' ⟨hv, ⟨hI, hdf, hlp, hsz⟩ | ⟨hX, hdf, hlp, hsz⟩⟩
    · exact ⟨hv, hdf, .inl ⟨⟨hI, hsz⟩, hlp⟩⟩
    · exact ⟨hv, hdf, .inr ⟨⟨hX, hsz⟩, hlp⟩⟩
  case h0 =>
    have hb : Below D W0 ((W0.alloc (.deferred (some []))).alloc (.loop rc)) := by
      rw [← hD]; exact (alloc_bel' W0 _).alloc (by simp) _
    refine ⟨hIB 0 W0 _ h0 hb, ?_, ?_, by simp; omega⟩
    · rw [Below.heap_alloc _ _ _ (by simp; omega), ← hD]; exact heap_alloc_new W0 _
    · have := heap_alloc_new (W0.alloc (.deferred (some []))) (.loop rc)
      rwa [World.size_alloc, hD] at this
  case hY =>
    rintro j W e f ⟨hI, hdf, hlp, hsz⟩ he hf
    refine yield_at2 _ _ hlp h2 ?_
    rw [h3, h4, h5]
    refine wpIn_mono (hround j W e f hI he hf hsz _) ?_
    intro ex a1 w1 hq
    cases ex with
    | normal =>
      obtain ⟨hb1, hbody⟩ := hq
      have hl1 : w1.heap[D + 1]? = some (.loop rc) := (hb1.block _ (by omega)).trans hlp
      have hs1 := hb1.size
      refine ⟨_, run_beginRound hl1 h1, ?_⟩
      have hs2 : (w1.putObj (D + 1) (.loop { rc with state := .busy })).heap.size = w1.heap.size := by simp
      refine wpIn_mono (hbody _ (below_put (Below.refl _ _) (Nat.le_refl _) _) (fun b hb => World.putObj_heap_other (by omega)) hs2) ?_
      intro ex a3 w3 hq3
      obtain ⟨hq3, hs3, hk3⟩ := hq3
      rw [hs2] at hs3 hk3
      have l3 : w3.heap[D + 1]? = some (.loop { rc with state := .busy }) := (hk3 _ (by omega) (by omega)).trans (World.putObj_heap_same (by omega))
      have d3 : w3.heap[D]? = some (.deferred (some [])) := by
        rw [hk3 D (Nat.le_refl _) (by omega), World.putObj_heap_other (by omega)]
        exact (hb1.block D (by omega)).trans hdf
      rcases hq3 with ⟨rfl, hI3⟩ | ⟨rfl, hX3⟩
      · refine ⟨_, _, run_endRound none l3, .inl ⟨rfl, ⟨?_, ?_, ?_, ?_⟩, ?_⟩⟩
        · exact hIB (j + 1) w3 _ hI3 (below_put (Below.refl _ _) (by omega) _)
        · rw [World.putObj_heap_other (by omega)]; exact d3
        · rw [World.putObj_heap_same (by omega)]
          obtain ⟨st, pe, fn', tm, ps, asg, bd, df⟩ := rc
          cases h1; cases hpend
          rfl
        · simp; omega
        · intro b hb1' hb2
          rw [World.putObj_heap_other (by omega), hk3 b (by omega) (by omega), World.putObj_heap_other (by omega)]
          exact hb1.block b hb2
      · refine ⟨_, _, run_endRound (some .ret) l3, .inr ⟨rfl, ?_, ?_, ?_, ?_⟩⟩
        · exact hXB w3 _ hX3
        · rw [World.putObj_heap_other (by omega)]; exact d3
        · rw [World.putObj_heap_same (by omega)]
          simp [h3, h4, h5]
        · simp; omega
    | _ => exact hq.elim
/-- The lowest level at which two paths have unlike bytes and one sum. -/
def low : List (List Int) → List (List Int) → Option (List Int × List Int)
  | x :: p, y :: q => if shl x = shl y ∧ x ≠ y then some (x, y) else low p q
  | _, _ => none
theorem low_skip {p q : List (List Int)} {j : Nat} {x y : List Int} (hx : p[j]? = some x) (hy : q[j]? = some y) (h : ¬ (shl x = shl y ∧ x ≠ y)) : low (p.drop j) (q.drop j) = low (p.drop (j + 1)) (q.drop (j + 1)) := by
  have h1 := (List.getElem?_eq_some_iff.1 hx)
  have h2 := (List.getElem?_eq_some_iff.1 hy)
  obtain ⟨a, rfl⟩ := h1
  obtain ⟨b, rfl⟩ := h2
  rw [List.drop_eq_getElem_cons a, List.drop_eq_getElem_cons b, low, if_neg h]
theorem low_hit {p q : List (List Int)} {j : Nat} {x y : List Int} (hx : p[j]? = some x) (hy : q[j]? = some y) (h : shl x = shl y ∧ x ≠ y) : low (p.drop j) (q.drop j) = some (x, y) := by
  have h1 := (List.getElem?_eq_some_iff.1 hx)
  have h2 := (List.getElem?_eq_some_iff.1 hy)
  obtain ⟨a, rfl⟩ := h1
  obtain ⟨b, rfl⟩ := h2
  rw [List.drop_eq_getElem_cons a, List.drop_eq_getElem_cons b, low, if_pos h]
/-- What Bind answers. -/
def BPost (o : Option (List Int × List Int)) (w : World) (r : Ending) (w' : World) : Prop :=
  ∃ sp n cap sp' n' cap', r = .returned (.tuple #[.slice sp n cap, .slice sp' n' cap', .bool o.isSome]) ∧ BS w'.heap.size w' sp n cap (o.elim [] Prod.fst) ∧ BS w'.heap.size w' sp' n' cap' (o.elim [] Prod.snd) ∧ Below w.heap.size w w'
theorem q0 {Q : Exit → Act → World → Prop} {a : Act} {w : World} (h : Q .normal a w) : Q0 Q .normal a w := h
theorem load_cell {w : World} {g ty : Nat} {v : Value} (hA : w.cell? ⟨g, 0, none⟩ = some v) (ha : (isAgg ty).run Try.prog w = .ok false w) : (loadVar ty ⟨g, 0, none⟩).run Try.prog w = .ok v w := by
  simp [loadVar, Sem.run_bind, ha, hA]
theorem resB {w : World} {tmps : Array Value} {g1 g2 g3 : Nat} {x y z : Value} (h1 : tmps.getD 2 undef = .pointer (some ⟨g1, 0, none⟩)) (h2 : tmps.getD 3 undef = .pointer (some ⟨g2, 0, none⟩)) (h3 : tmps.getD 4 undef = .pointer (some ⟨g3, 0, none⟩))
    (c1 : w.cell? ⟨g1, 0, none⟩ = some x) (c2 : w.cell? ⟨g2, 0, none⟩ = some y) (c3 : w.cell? ⟨g3, 0, none⟩ = some z) :
    (results Try.f29 tmps).run Try.prog w = .ok (.tuple #[x, y, z]) w := by
  have h1' : tmps[2]?.getD undef = .pointer (some ⟨g1, 0, none⟩) := by simpa using h1
  have h2' : tmps[3]?.getD undef = .pointer (some ⟨g2, 0, none⟩) := by simpa using h2
  have h3' : tmps[4]?.getD undef = .pointer (some ⟨g3, 0, none⟩) := by simpa using h3
  have l1 := load_cell c1 (ty := 38) (by kernel_rfl)
  have l2 := load_cell c2 (ty := 38) (by kernel_rfl)
  have l3 := load_cell c3 (ty := 4) (by kernel_rfl)
  simp [results, Try.results29, h1', h2', h3', asAddr, l1, l2, l3]
/-- lowest's variables, when j levels were told. -/
structure LI (p q : List (List Int)) (w : World) (j : Nat) (W : World) : Prop where
  bel : Below w.heap.size w W
  a0 : Arr W w.heap.size 38 #[.slice none 0 0]
  a1 : Arr W (w.heap.size + 1) 38 #[.slice none 0 0]
  a2 : Arr W (w.heap.size + 1 + 1) 4 #[.bool false]
  no : Hid (low p q = low (p.drop j) (q.drop j))
theorem LI.below {p q : List (List Int)} {w : World} {j : Nat} {W W' : World} (h : LI p q w j W) (hb : Below (w.heap.size + 3) W W') : LI p q w j W' :=
  ⟨h.bel.trans (hb.mono (by omega)), h.a0.below hb (by omega), h.a1.below hb (by omega), h.a2.below hb (by omega), h.no⟩
/-- .. when two were found. -/
structure LX (p q : List (List Int)) (w : World) (W : World) : Prop where
  bel : Below w.heap.size w W
  ex : ∃ (sp sp' : Option Addr) (n n' cap cap' : Nat) (x y : List Int), low p q = some (x, y) ∧ Arr W w.heap.size 38 #[.slice sp n cap] ∧ Arr W (w.heap.size + 1) 38 #[.slice sp' n' cap'] ∧ Arr W (w.heap.size + 1 + 1) 4 #[.bool true] ∧ BS W.heap.size W sp n cap x ∧ BS W.heap.size W sp' n' cap' y ∧ (∀ b off, sp = some ⟨b, off, none⟩ → w.heap.size + 5 ≤ b) ∧ (∀ b off, sp' = some ⟨b, off, none⟩ → w.heap.size + 5 ≤ b)
theorem BS.put {N : Nat} {w : World} {sp : Option Addr} {n cap : Nat} {L : List Int} (h : BS N w sp n cap L) {r : Nat} (o : Obj) (hne : ∀ b off, sp = some ⟨b, off, none⟩ → b ≠ r) : BS N (w.putObj r o) sp n cap L :=
  ⟨h.len, h.nil, h.le, h.big, h.small, fun h0 => by
    obtain ⟨b, off, e, hbN, hB⟩ := h.at0 h0
    exact ⟨b, off, e, hbN, fun t ht => (World.cell?_of_block (w := w) (a := ⟨b, off + t, none⟩) (World.putObj_heap_other (hne b off e))).trans (hB t ht)⟩, h.bts⟩
theorem LX.put {p q : List (List Int)} {w W : World} (h : LX p q w W) {r : Nat} (o : Obj) (hr : w.heap.size + 3 ≤ r ∧ r < w.heap.size + 5) : LX p q w (W.putObj r o) := by
  obtain ⟨sp, sp', n, n', cap, cap', x, y, h1, h2, h3, h4, h5, h6, h7, h8⟩ := h.ex
  exact ⟨below_put h.bel (by omega) o, sp, sp', n, n', cap, cap', x, y, h1, h2.put o (by omega), h3.put o (by omega), h4.put o (by omega), by simpa using h5.put o (fun b off e => by have := h7 b off e; omega), by simpa using h6.put o (fun b off e => by have := h8 b off e; omega), h7, h8⟩
theorem fnd_ends {p q : List (List Int)} {j : Nat} (h : p.length = j) : low (p.drop j) (q.drop j) = none := by
  rw [List.drop_eq_nil_of_le (by omega)]; rfl
set_option maxRecDepth 100000 in
set_option maxHeartbeats 2000000 in
theorem lowest_any (b1 b2 b3 b4 m : Nat) (A B : List Int) (sp sp' : Option Addr) (n cap cap' : Nat) (ls ls' : List (List Int)) (hA : A.length = 32) (hB : B.length = 32) (bA : Bts A) (bB : Bts B) (bl : ∀ Y ∈ ls, Bts Y) (bl' : ∀ Y ∈ ls', Bts Y) (hm : m ≤ 9223372036854775807) (hn : n ≤ 16) (w : World)
    (hb : b1 < w.heap.size ∧ b2 < w.heap.size ∧ b3 < w.heap.size ∧ b4 < w.heap.size) (hS : SI b1 b2 b3 b4 m A B sp sp' n cap cap' ls ls' w.heap.size w) :
    Calls Try.prog 29 #[.func (Fn.func 46) #[] #[.pointer (some ⟨b1, 0, none⟩), .pointer (some ⟨b2, 0, none⟩), .pointer (some ⟨b3, 0, none⟩), .pointer (some ⟨b4, 0, none⟩)]] w (BPost (low (pth m A ls) (pth m B ls')) w) := by
  obtain ⟨hb1, hb2, hb3, hb4⟩ := hb
  obtain ⟨p, hp⟩ : ∃ p, p = pth m A ls := ⟨_, rfl⟩
  obtain ⟨q, hq⟩ : ∃ q, q = pth m B ls' := ⟨_, rfl⟩
  have hpl : p.length = n := by rw [hp, pth_len]; exact hS.s1.len.out.symm
  rw [← hp, ← hq]
  replace hp := Hid.mk' hp
  replace hq := Hid.mk' hq
  refine (callsIn_wide (n := 3)).1 ?_
  refine callsIn_of_wp_marks Try.func29 rfl trivial ?_ rfl
  simp only [Try.ntmps29, List.size_toArray, List.length_cons, List.length_nil, Nat.reduceAdd, Nat.reduceSub, Array.replicate_succ, Array.replicate_zero, List.push_toArray, List.append_toArray, List.nil_append, List.cons_append]
  gi_wp2
  have hI0 : LI p q w 0 (((w.alloc (.cells #[.slice none 0 0] 38)).alloc (.cells #[.slice none 0 0] 38)).alloc (.cells #[.bool false] 4)) := by
    refine ⟨((alloc_bel' w _).alloc (by simp) _).alloc (by simp; omega) _, ((Arr.new w 38 _).alloc _).alloc _, ?_, ?_, Hid.mk' (by simp)⟩
    · have h := Arr.new (w.alloc (.cells #[.slice none 0 0] 38)) 38 #[.slice none 0 0]
      simp only [World.size_alloc] at h
      exact h.alloc _
    · have h := Arr.new ((w.alloc (.cells #[.slice none 0 0] 38)).alloc (.cells #[.slice none 0 0] 38)) 4 #[.bool false]
      simp only [World.size_alloc] at h
      exact h
  have hIS : ∀ j W, LI p q w j W → w.heap.size + 3 + 2 ≤ W.heap.size → SI b1 b2 b3 b4 m A B sp sp' n cap cap' ls ls' (w.heap.size + 3 + 2) W := fun j W h hs =>
    ⟨hS.c1.below h.bel hb1, hS.c2.below h.bel hb2, (h.bel.cell (p := ⟨b3, 0, none⟩) hb3).trans hS.c3, (h.bel.cell (p := ⟨b4, 0, none⟩) hb4).trans hS.c4, (hS.s1.below h.bel).mono (by omega), (hS.s2.below h.bel).mono (by omega), hs⟩
  refine range_side (w.heap.size + 3) (by simp) b1 b2 b3 b4 m A B sp sp' n cap cap' ls ls' hA hB bA bB bl bl' hm hn ⟨by omega, by omega, by omega, by omega⟩ rfl (LI p q w) (LX p q w) (fun j W W' h hb => h.below hb) (fun W o h => h.put o (by omega)) hIS hI0 ?round ?done ?stop
  case round =>
    rintro j V e f hI ⟨Y, hY, he⟩ ⟨Z, hZ, hf⟩ hsz k
    clear hI0 hIS
    have hpj : p[j]? = some e.bs := by rw [hp.out, pth_get hY, he.bs]
    have hqj : q[j]? = some f.bs := by rw [hq.out, pth_get hZ, hf.bs]
    have hse : e.sm = shl e.bs := by rw [he.sm, he.bs]
    have hsf : f.sm = shl f.bs := by rw [hf.sm, hf.bs]
    have hsk := Hid.mk' (low_skip hpj hqj)
    have hht := Hid.mk' (low_hit hpj hqj)
    have hhe : Hid (hitE e f = decide (shl e.bs = shl f.bs ∧ e.bs ≠ f.bs)) := Hid.mk' (by unfold hitE; rw [hse, hsf]; simp)
    have hok := he.ok
    have hok' := hf.ok
    have hap := Hid.mk' he.ap
    have hap' := Hid.mk' hf.ap
    have e32 := hok.s32
    have f32 := hok'.s32
    clear hpj hqj hse hsf hY hZ he hf
    gi_wp2_with (first
      | (refine si54n (by rfl) _ _ (by rfl) V V.heap.size rfl (by rfl) e (by rfl) (by rfl) e32 ?_)
      | (refine si54n (by rfl) _ _ (by rfl) (V.alloc (.cells e.arr 54)) (V.heap.size + 1) (by simp) (by rfl) f (by rfl) (by rfl) f32 ?_))
    refine ⟨(alloc_bel' V _).alloc (by simp) _, fun w2 hb2 hk2 hs2 => ?_⟩
    have E2 : Arr w2 V.heap.size 54 e.arr := (hk2 _ (by omega)).trans ((Arr.new V 54 e.arr).alloc _)
    have F2 : Arr w2 (V.heap.size + 1) 54 f.arr := by
      have h := Arr.new (V.alloc (.cells e.arr 54)) 54 f.arr
      simp only [World.size_alloc] at h
      exact (hk2 _ (by omega)).trans h
    have hbV : Below (w.heap.size + 3) V w2 := (((alloc_bel' V (.cells e.arr 54)).alloc (by simp) (.cells f.arr 54)).mono (by omega)).trans (hb2.mono (by omega))
    have hI2 := hI.below hbV
    simp only [World.size_alloc] at hs2
    have keep : ∀ g : En, EnOK V.heap.size V g → (∀ b off, g.sp = some ⟨b, off, none⟩ → w.heap.size + 3 + 2 ≤ b) → EnOK w2.heap.size w2 g := fun g hg hp' => by
      refine ⟨⟨hg.body.len, hg.body.nil, hg.body.le, hg.body.big, hg.body.small, fun h0 => ?_, hg.body.bts⟩, hg.s32⟩
      obtain ⟨b, off, e1, hbN, hB⟩ := hg.body.at0 h0
      have hb5 := hp' b off e1
      refine ⟨b, off, e1, by omega, fun t ht => ?_⟩
      rw [World.cell?_of_block (w := V) (a := ⟨b, off + t, none⟩) ((hk2 b (by omega)).trans (((alloc_bel' V (.cells e.arr 54)).alloc (by simp) (.cells f.arr 54)).block b hbN))]
      exact hB t ht
    have oe := keep e hok hap.out
    have of := keep f hok' hap'.out
    clear keep hb2 hbV
    have hcol := Hid.mk' (collides_any e f w2.heap.size w2 oe of (Nat.le_refl _))
    obtain ⟨hbel, T0, T1, T2, hno⟩ := hI2
    replace hk2 := Hid.mk' hk2
    cases hh : hitE e f with
    | false =>
      have hno2 : Hid (low p q = low (p.drop (j + 1)) (q.drop (j + 1))) := Hid.mk' (hno.out.trans (hsk.out (by have := hhe.out; rw [hh] at this; exact of_decide_eq_false this.symm)))
      rw [hh] at hcol
      gi_wp2_with (first
        | (refine li54 (by rfl) _ (by rfl) V.heap.size 0 (by rfl) e e32 (rangeE E2) ?_)
        | (refine li54 (by rfl) _ (by rfl) (V.heap.size + 1) 0 (by rfl) f f32 (rangeE F2) ?_)
        | (refine ⟨trivial, fun h => (by cases h), ?_⟩; gi_at_call 24; go_must (refine (callsIn_round hcol.out).mono ?_; rintro r w3 ⟨rfl, hb3⟩)))
      have hs3 := hb3.size
      refine ⟨?_, by omega, fun b _ h2 => hb3.block b (by omega)⟩
      exact ⟨hbel.trans (hb3.mono hbel.size), T0.bel hb3, T1.bel hb3, T2.bel hb3, hno2⟩
    | true =>
      have hno2 : Hid (low p q = some (e.bs, f.bs)) := Hid.mk' (hno.out.trans (hht.out (by have := hhe.out; rw [hh] at this; exact of_decide_eq_true this.symm)))
      rw [hh] at hcol
      gi_wp2_with (first
        | (refine li54 (by rfl) _ (by rfl) V.heap.size 0 (by rfl) e e32 (rangeE E2) ?_)
        | (refine li54 (by rfl) _ (by rfl) (V.heap.size + 1) 0 (by rfl) f f32 (rangeE F2) ?_)
        | (refine ⟨trivial, fun h => (by cases h), ?_⟩; gi_at_call 24; go_must (refine (callsIn_round hcol.out).mono ?_; rintro r w3 ⟨rfl, hb3⟩)))
      have hs3 := hb3.size
      have U0 := (T0.bel hb3).drew
      have U1 := (T1.bel hb3).drew
      have U2 := (T2.bel hb3).drew
      have UE := (E2.bel hb3).drew
      have UF := (F2.bel hb3).drew
      have B0 : Below w.heap.size w w3.drew := (hbel.trans (hb3.mono hbel.size)).drew
      have k0 : ∀ b, w.heap.size + 3 ≤ b → w3.drew.heap[b]? = w3.heap[b]? := fun b _ => rfl
      have z0 : w3.drew.heap.size = w3.heap.size := by simp
      refine region_round (S := fun u => u.cell? ⟨V.heap.size, 0, none⟩ = some (.slice e.sp e.n e.cap) ∧ u.cell? ⟨V.heap.size + 1, 0, none⟩ = some (.slice f.sp f.n f.cap)) (by kernel_rfl) (by kernel_rfl) ⟨range_c0 (rangeE UE), range_c0 (rangeE UF)⟩ (fun hHeld => ?_)
      generalize w3.drew = N0 at *
      refine wpAnyH_take (i := 0) (oi := ⟨_, _, _, _, _, _⟩) (v := ?_) rfl (by kernel_rfl) (by kernel_rfl) (by kernel_rfl) (fun _ _ _ h => h) (Or.inl ⟨by rfl, ?_⟩) (by assumption) ?_
      rotate_left
      · intro u hSw
        go_simp
        try (with_reducible rfl)
      try simp only [Act.put, List.setIfInBounds_toArray, List.set_cons_zero, List.set_cons_succ]
      refine wpAnyH_take (i := 1) (oi := ⟨_, _, _, _, _, _⟩) (v := ?_) rfl (by kernel_rfl) (by kernel_rfl) (by kernel_rfl) (fun _ _ _ h => h) (Or.inl ⟨by rfl, ?_⟩) (by assumption) ?_
      rotate_left
      · intro u hSw
        have cc := hSw.1
        go_simp
        try (with_reducible rfl)
      try simp only [Act.put, List.setIfInBounds_toArray, List.set_cons_zero, List.set_cons_succ]
      refine wpAnyH_take (i := 2) (oi := ⟨_, _, _, _, _, _⟩) (v := ?_) rfl (by kernel_rfl) (by kernel_rfl) (by kernel_rfl) (fun _ _ _ h => h) (Or.inl ⟨by rfl, ?_⟩) (by assumption) ?_
      rotate_left
      · intro u hSw
        go_simp
        try (with_reducible rfl)
      try simp only [Act.put, List.setIfInBounds_toArray, List.set_cons_zero, List.set_cons_succ]
      refine wpAnyH_take (i := 3) (oi := ⟨_, _, _, _, _, _⟩) (v := ?_) rfl (by kernel_rfl) (by kernel_rfl) (by kernel_rfl) (fun _ _ _ h => h) (Or.inl ⟨by rfl, ?_⟩) (by assumption) ?_
      rotate_left
      · intro u hSw
        have cc := hSw.2
        go_simp
        try (with_reducible rfl)
      try simp only [Act.put, List.setIfInBounds_toArray, List.set_cons_zero, List.set_cons_succ]
      refine wpAnyH_ready (rs := [4]) (by kernel_rfl) (by simp) ?_
      refine AllReadyH.cons (o := ⟨_, _, _, _, _, _⟩) rfl (fun K hK => ?_) AllReadyH.nil
      have cs := U0.cell 0; have fs := U0.frozen 0; simp at cs
      go_simp
      go_wp2_with fail
      have X0 := U0.set 0 (.slice e.sp e.n e.cap); have X1 := U1.setOther (a := ⟨w.heap.size, 0, none⟩) (.slice e.sp e.n e.cap) (by show w.heap.size + 1 ≠ w.heap.size; omega); have X2 := U2.setOther (a := ⟨w.heap.size, 0, none⟩) (.slice e.sp e.n e.cap) (by show w.heap.size + 1 + 1 ≠ w.heap.size; omega); have XE := UE.setOther (a := ⟨w.heap.size, 0, none⟩) (.slice e.sp e.n e.cap) (by show V.heap.size ≠ w.heap.size; omega); have XF := UF.setOther (a := ⟨w.heap.size, 0, none⟩) (.slice e.sp e.n e.cap) (by show V.heap.size + 1 ≠ w.heap.size; omega)
      have B1 : Below w.heap.size w (N0.setCell ⟨w.heap.size, 0, none⟩ (.slice e.sp e.n e.cap)) := B0.setCell (p := ⟨w.heap.size, 0, none⟩) (by show w.heap.size ≤ w.heap.size; omega) _
      have k1 : ∀ b, w.heap.size + 3 ≤ b → (N0.setCell ⟨w.heap.size, 0, none⟩ (.slice e.sp e.n e.cap)).heap[b]? = w3.heap[b]? := fun b hb => (Below.heap_setCell _ _ _ _ (by show b ≠ w.heap.size; omega)).trans (k0 b hb)
      have z1 : (N0.setCell ⟨w.heap.size, 0, none⟩ (.slice e.sp e.n e.cap)).heap.size = w3.heap.size := by simp [World.setCell]; exact z0
      generalize N0.setCell ⟨w.heap.size, 0, none⟩ (.slice e.sp e.n e.cap) = N1 at *
      refine hK.out _ _ ⟨range_c0 (rangeE XE), range_c0 (rangeE XF)⟩ (fun hHeld => ?_)
      clear hK K cs fs
      try simp only [Act.put, List.setIfInBounds_toArray, List.set_cons_zero, List.set_cons_succ]
      refine wpAnyH_ready (rs := [5]) (by kernel_rfl) (by simp) ?_
      refine AllReadyH.cons (o := ⟨_, _, _, _, _, _⟩) rfl (fun K hK => ?_) AllReadyH.nil
      have cs := X1.cell 0; have fs := X1.frozen 0; simp at cs
      go_simp
      go_wp2_with fail
      have Y0 := X0.setOther (a := ⟨w.heap.size + 1, 0, none⟩) (.slice f.sp f.n f.cap) (by show w.heap.size ≠ w.heap.size + 1; omega); have Y1 := X1.set 0 (.slice f.sp f.n f.cap); have Y2 := X2.setOther (a := ⟨w.heap.size + 1, 0, none⟩) (.slice f.sp f.n f.cap) (by show w.heap.size + 1 + 1 ≠ w.heap.size + 1; omega); have YE := XE.setOther (a := ⟨w.heap.size + 1, 0, none⟩) (.slice f.sp f.n f.cap) (by show V.heap.size ≠ w.heap.size + 1; omega); have YF := XF.setOther (a := ⟨w.heap.size + 1, 0, none⟩) (.slice f.sp f.n f.cap) (by show V.heap.size + 1 ≠ w.heap.size + 1; omega)
      have B2 : Below w.heap.size w (N1.setCell ⟨w.heap.size + 1, 0, none⟩ (.slice f.sp f.n f.cap)) := B1.setCell (p := ⟨w.heap.size + 1, 0, none⟩) (by show w.heap.size ≤ w.heap.size + 1; omega) _
      have k2 : ∀ b, w.heap.size + 3 ≤ b → (N1.setCell ⟨w.heap.size + 1, 0, none⟩ (.slice f.sp f.n f.cap)).heap[b]? = w3.heap[b]? := fun b hb => (Below.heap_setCell _ _ _ _ (by show b ≠ w.heap.size + 1; omega)).trans (k1 b hb)
      have z2 : (N1.setCell ⟨w.heap.size + 1, 0, none⟩ (.slice f.sp f.n f.cap)).heap.size = w3.heap.size := by simp [World.setCell]; exact z1
      generalize N1.setCell ⟨w.heap.size + 1, 0, none⟩ (.slice f.sp f.n f.cap) = N2 at *
      refine hK.out _ _ ⟨range_c0 (rangeE YE), range_c0 (rangeE YF)⟩ (fun hHeld => ?_)
      clear hK K cs fs
      try simp only [Act.put, List.setIfInBounds_toArray, List.set_cons_zero, List.set_cons_succ]
      refine wpAnyH_ready (rs := [6]) (by kernel_rfl) (by simp) ?_
      refine AllReadyH.cons (o := ⟨_, _, _, _, _, _⟩) rfl (fun K hK => ?_) AllReadyH.nil
      have cs := Y2.cell 0; have fs := Y2.frozen 0; simp at cs
      go_simp
      go_wp2_with fail
      have Z0 := Y0.setOther (a := ⟨w.heap.size + 1 + 1, 0, none⟩) (.bool true) (by show w.heap.size ≠ w.heap.size + 1 + 1; omega); have Z1 := Y1.setOther (a := ⟨w.heap.size + 1 + 1, 0, none⟩) (.bool true) (by show w.heap.size + 1 ≠ w.heap.size + 1 + 1; omega); have Z2 := Y2.set 0 (.bool true); have ZE := YE.setOther (a := ⟨w.heap.size + 1 + 1, 0, none⟩) (.bool true) (by show V.heap.size ≠ w.heap.size + 1 + 1; omega); have ZF := YF.setOther (a := ⟨w.heap.size + 1 + 1, 0, none⟩) (.bool true) (by show V.heap.size + 1 ≠ w.heap.size + 1 + 1; omega)
      have B3 : Below w.heap.size w (N2.setCell ⟨w.heap.size + 1 + 1, 0, none⟩ (.bool true)) := B2.setCell (p := ⟨w.heap.size + 1 + 1, 0, none⟩) (by show w.heap.size ≤ w.heap.size + 1 + 1; omega) _
      have k3 : ∀ b, w.heap.size + 3 ≤ b → (N2.setCell ⟨w.heap.size + 1 + 1, 0, none⟩ (.bool true)).heap[b]? = w3.heap[b]? := fun b hb => (Below.heap_setCell _ _ _ _ (by show b ≠ w.heap.size + 1 + 1; omega)).trans (k2 b hb)
      have z3 : (N2.setCell ⟨w.heap.size + 1 + 1, 0, none⟩ (.bool true)).heap.size = w3.heap.size := by simp [World.setCell]; exact z2
      generalize N2.setCell ⟨w.heap.size + 1 + 1, 0, none⟩ (.bool true) = N3 at *
      refine hK.out _ _ ⟨range_c0 (rangeE ZE), range_c0 (rangeE ZF)⟩ (fun hHeld => ?_)
      clear hK K cs fs
      try simp only [Act.put, List.setIfInBounds_toArray, List.set_cons_zero, List.set_cons_succ]
      refine wpAnyH_done (by kernel_rfl) ?_ _
      refine q0 ?_
      gi_wp2
      have keep : ∀ (sp : Option Addr) (n cap : Nat) (L : List Int), BS w2.heap.size w2 sp n cap L → (∀ b off, sp = some ⟨b, off, none⟩ → w.heap.size + 3 + 2 ≤ b) → BS N3.heap.size N3 sp n cap L := fun sp n cap L hg hp' => by
        refine ⟨hg.len, hg.nil, hg.le, hg.big, hg.small, fun h0 => ?_, hg.bts⟩
        obtain ⟨b, off, e1, hbN, hB⟩ := hg.at0 h0
        have hb5 := hp' b off e1
        refine ⟨b, off, e1, by omega, fun t ht => ?_⟩
        rw [World.cell?_of_block (w := w2) (a := ⟨b, off + t, none⟩) ((k3 b (by omega)).trans (hb3.block b hbN))]
        exact hB t ht
      refine ⟨⟨B3, e.sp, f.sp, e.n, f.n, e.cap, f.cap, e.bs, f.bs, hno2.out, by simpa using Z0, by simpa using Z1, by simpa using Z2, keep _ _ _ _ oe.body hap.out, keep _ _ _ _ of.body hap'.out, fun b off e1 => by have := hap.out b off e1; omega, fun b off e1 => by have := hap'.out b off e1; omega⟩, by omega, fun b h1 h2 => (k3 b h1).trans (hb3.block b (by omega))⟩
  case done =>
    intro V o hI hsz hdf
    obtain ⟨hbel, T0, T1, T2, hno⟩ := hI.below (below_put (r := w.heap.size + 3 + 1) (Below.refl (w.heap.size + 3) V) (by omega) o)
    have hdf' : (V.putObj (w.heap.size + 3 + 1) o).heap[w.heap.size + 3]? = some (.deferred (some [])) := (World.putObj_heap_other (by omega)).trans hdf
    generalize V.putObj (w.heap.size + 3 + 1) o = V2 at *
    have hlow := Hid.mk' (hno.out.trans (fnd_ends hpl))
    have c0 := T0.cell 0; have f0 := T0.frozen 0; have c1 := T1.cell 0; have f1 := T1.frozen 0; have c2 := T2.cell 0; have f2 := T2.frozen 0
    simp at c0 c1 c2
    gi_wp2
    have Z0 := (((T0.set 0 (.slice none 0 0)).setOther (a := ⟨w.heap.size + 1, 0, none⟩) (.slice none 0 0) (by show w.heap.size ≠ w.heap.size + 1; omega)).setOther (a := ⟨w.heap.size + 1 + 1, 0, none⟩) (.bool false) (by show w.heap.size ≠ w.heap.size + 1 + 1; omega)).put (r := w.heap.size + 3) (.deferred none) (by omega)
    have Z1 := (((T1.setOther (a := ⟨w.heap.size, 0, none⟩) (.slice none 0 0) (by show w.heap.size + 1 ≠ w.heap.size; omega)).set 0 (.slice none 0 0)).setOther (a := ⟨w.heap.size + 1 + 1, 0, none⟩) (.bool false) (by show w.heap.size + 1 ≠ w.heap.size + 1 + 1; omega)).put (r := w.heap.size + 3) (.deferred none) (by omega)
    have Z2 := (((T2.setOther (a := ⟨w.heap.size, 0, none⟩) (.slice none 0 0) (by show w.heap.size + 1 + 1 ≠ w.heap.size; omega)).setOther (a := ⟨w.heap.size + 1, 0, none⟩) (.slice none 0 0) (by show w.heap.size + 1 + 1 ≠ w.heap.size + 1; omega)).set 0 (.bool false)).put (r := w.heap.size + 3) (.deferred none) (by omega)
    have hK : (((V2.setCell ⟨w.heap.size, 0, none⟩ (.slice none 0 0)).setCell ⟨w.heap.size + 1, 0, none⟩ (.slice none 0 0)).setCell ⟨w.heap.size + 1 + 1, 0, none⟩ (.bool false)).heap[w.heap.size + 3]? = some (.deferred (some [])) := (Below.heap_setCell _ _ _ _ (by show w.heap.size + 3 ≠ w.heap.size + 1 + 1; omega)).trans ((Below.heap_setCell _ _ _ _ (by show w.heap.size + 3 ≠ w.heap.size + 1; omega)).trans ((Below.heap_setCell _ _ _ _ (by show w.heap.size + 3 ≠ w.heap.size; omega)).trans hdf'))
    have hbz := below_put (((hbel.setCell (p := ⟨w.heap.size, 0, none⟩) (Nat.le_refl _) (.slice none 0 0)).setCell (p := ⟨w.heap.size + 1, 0, none⟩) (by show w.heap.size ≤ w.heap.size + 1; omega) (.slice none 0 0)).setCell (p := ⟨w.heap.size + 1 + 1, 0, none⟩) (by show w.heap.size ≤ w.heap.size + 1 + 1; omega) (.bool false)) (r := w.heap.size + 3) (by omega) (.deferred none)
    have d0 := Z0.cell 0; have d1 := Z1.cell 0; have d2 := Z2.cell 0
    refine ⟨by simp, .inl ⟨_, _, rfl, run_takeDeferred hK, ?_⟩⟩
    exact ⟨_, resB rfl rfl rfl (d0.trans rfl) (d1.trans rfl) (d2.trans rfl), by rw [hlow.out]; exact ⟨none, 0, 0, none, 0, 0, rfl, BS.nil0 _ _, BS.nil0 _ _, hbz⟩⟩
  case stop =>
    intro V o hX hsz hdf
    have hX2 := hX.put (r := w.heap.size + 3 + 1) o (by omega)
    have hdf' : (V.putObj (w.heap.size + 3 + 1) o).heap[w.heap.size + 3]? = some (.deferred (some [])) := (World.putObj_heap_other (by omega)).trans hdf
    generalize V.putObj (w.heap.size + 3 + 1) o = V2 at *
    have hX3 := hX2.put (r := w.heap.size + 3) (.deferred none) (by omega)
    obtain ⟨hbel, sp, sp', n, n', cap, cap', x, y, hlow, A0, A1, A2, B1, B2, -, -⟩ := hX3
    rw [hlow]
    have c0 := A0.cell 0; have c1 := A1.cell 0; have c2 := A2.cell 0
    simp at c0 c1 c2
    refine ⟨by simp, .inl ⟨_, _, rfl, run_takeDeferred hdf', ?_⟩⟩
    exact ⟨_, resB rfl rfl rfl c0 c1 c2, sp, n, cap, sp', n', cap', rfl, B1, B2, hbel⟩
end Go.Proofs.Ytgjnbpimldjkpaa
