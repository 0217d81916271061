/- Layer frame: Join. -/
import Derived.Test.YtbjlmekafnpllabFe
namespace Go.Proofs.Ytbjlmekafnpllab
open Go.RowKit Go.Shelf
set_option linter.unusedVariables false
set_option linter.unusedSimpArgs false
attribute [local go_sem] Oper.semAt_some

set_option maxRecDepth 100000 in
set_option maxHeartbeats 400000 in
theorem those_any (sp : Option Addr) (n cap : Nat) (p q : Addr) (w : World) :
    Calls Try.prog 33 #[.slice sp n cap, .func (Fn.func 32) #[] #[.pointer (some p), .pointer (some q)]] w fun e w' => e = .returned (.func (Fn.func 52) #[] #[.pointer (some ⟨w.heap.size, 0, none⟩), .pointer (some ⟨w.heap.size + 1, 0, none⟩)]) ∧
      w' = (w.alloc (.cells #[.slice sp n cap] 39)).alloc (.cells #[.func (Fn.func 32) #[] #[.pointer (some p), .pointer (some q)]] 52) := by
  have hmf : ∀ (fn : Fn) (first cap : Array Value) (w : World), (Instr.makeFunc fn first cap).run Try.prog w = .ok (.func fn first cap) w := fun _ _ _ _ => rfl
  go_enter Try.func33, Try.ntmps33
  go_wp2
  go_ret
  exact ⟨rfl, rfl⟩

/-- What Join has laid, when it has looked at i frames: its variables, the map, the loop's record. -/
structure JS (c : Int) (sp : Option Addr) (n cap : Nat) (fs : List Fr) (rc : Loop) (w : World) (i : Nat) (W : World) : Prop where
  bel : Below w.heap.size w W
  chan : Arr W w.heap.size 22 #[.int .u64 c]
  map : MapAt W (w.heap.size + 1) (fun k => (cnt c (fs.take i) k).map Fr.val)
  mapv : Arr W (w.heap.size + 2) 72 #[.map (some (w.heap.size + 1))]
  endv : ∃ E : Nat, Endd c (fs.take i) E ∧ Arr W (w.heap.size + 3) 3 #[.int .i64 (E : Int)]
  sl : Arr W (w.heap.size + 4) 39 #[.slice sp n cap]
  keep : Arr W (w.heap.size + 5) 52 #[.func (Fn.func 32) #[] #[.pointer (some ⟨w.heap.size + 2, 0, none⟩), .pointer (some ⟨w.heap.size, 0, none⟩)]]
  dfr : W.heap[w.heap.size + 6]? = some (.deferred (some []))
  lrec : W.heap[w.heap.size + 7]? = some (.loop rc)
theorem JS.below {c : Int} {sp : Option Addr} {n cap : Nat} {fs : List Fr} {rc : Loop} {w : World} {i : Nat} {W W' : World} (h : JS c sp n cap fs rc w i W) (hb : Below (w.heap.size + 8) W W') : JS c sp n cap fs rc w i W' := by
  obtain ⟨E, hE, hA⟩ := h.endv
  exact ⟨h.bel.trans (hb.mono (by omega)), h.chan.below hb (by omega), h.map.same (hb.block _ (by omega)), h.mapv.below hb (by omega), ⟨E, hE, hA.below hb (by omega)⟩, h.sl.below hb (by omega), h.keep.below hb (by omega), (hb.block _ (by omega)).trans h.dfr, (hb.block _ (by omega)).trans h.lrec⟩
theorem JS.size {c : Int} {sp : Option Addr} {n cap : Nat} {fs : List Fr} {rc : Loop} {w : World} {i : Nat} {W : World} (h : JS c sp n cap fs rc w i W) : w.heap.size + 8 ≤ W.heap.size := by
  have := (Array.getElem?_eq_some_iff.1 h.lrec).1; omega
theorem take_next {fs : List Fr} {i : Nat} {f : Fr} (h : fs[i]? = some f) : fs.take (i + 1) = fs.take i ++ [f] := by rw [List.take_add_one, h]; rfl
theorem Arr.put {w : World} {g ty : Nat} {C : Array Value} (h : Arr w g ty C) {r : Nat} (o : Obj) (hne : g ≠ r) : Arr (w.putObj r o) g ty C := (World.putObj_heap_other hne).trans h
theorem below_put {B : Nat} {a w : World} (h : Below B a w) {r : Nat} (hr : B ≤ r) (o : Obj) : Below B a (w.putObj r o) :=
  ⟨h.os, h.tape, h.output, by simpa using h.size, fun k hk => (World.putObj_heap_other (by omega)).trans (h.block k hk)⟩


/-- A range over a function that is called once, and always goes on. -/
theorem wp_range {g : Operand} {t : Tmp} {assign body : Code} {Q : Exit → Act → World → Prop} {a : Act} {W0 : World} (gf : Nat) (lb : Array Value) (hg : a.eval g = .func (.func gf) #[] lb) (eg : ∀ args w, (callFunc gf args).run Try.prog w = .ok (.enter gf args) w)
    (I : World → Prop)
    (hcall : ∀ rc : Loop, rc.state = .ready → rc.pending = none → rc.params = #[t] → rc.tmps = a.tmps → rc.assign = assign → rc.body = body →
      CallsIn Fence.wide 2 Try.prog gf (#[.func (.yield (W0.heap.size + 1)) #[] #[]] ++ lb) ((W0.alloc (.deferred (some []))).alloc (.loop rc)) fun e W' => (∃ v, e = .returned v) ∧ I W' ∧ W'.heap[W0.heap.size + 1]? = some (.loop rc) ∧ W'.heap[W0.heap.size]? = some (.deferred (some [])))
    (hdone : ∀ W' o, I W' → W'.heap[W0.heap.size]? = some (.deferred (some [])) → Q .normal { a with defers := { target := .collected W0.heap.size, args := #[] } :: a.defers } (W'.putObj (W0.heap.size + 1) o)) :
    (Code.rangeFunc g #[t] assign body).wpIn Fence.wide 3 Try.prog Q a W0 := by
  refine wpIn_rangeFunc fun fn hfn => ?_
  have hent := run_enterLoop_outer (P := Try.prog) (w := W0) fn a.tmps #[t] assign body
  obtain ⟨rc, hrc⟩ : ∃ rc : Loop, rc = { state := .ready, pending := none, fn, tmps := a.tmps, params := #[t], assign, body, defers := W0.heap.size } := ⟨_, rfl⟩
  rw [← hrc] at hent
  refine ⟨_, _, _, { target := .fn (.func gf) lb, args := #[.func (.yield (W0.heap.size + 1)) #[] #[]] }, (W0.alloc (.deferred (some []))).alloc (.loop rc), gf, #[.func (.yield (W0.heap.size + 1)) #[] #[]] ++ lb, (W0.alloc (.deferred (some []))).alloc (.loop rc), hent, ?_, fun _ _ => trivial, ?_, fun h => (by cases h), ?_⟩
  · simp only [resolve, hg]
    simp [go_sem]
  · simp [invoke, go_sem, eg]
  · refine (hcall rc (by rw [hrc]) (by rw [hrc]) (by rw [hrc]) (by rw [hrc]) (by rw [hrc]) (by rw [hrc])).mono ?_
    rintro e W2 ⟨⟨v, rfl⟩, hI, hl, hk⟩
    have hend := run_endLoop (P := Try.prog) hl (by rw [hrc]; simp)
    rw [show rc.pending = none by rw [hrc]] at hend
    exact ⟨none, _, hend, hdone W2 _ hI hk⟩
/-- One round. -/
theorem yield_at {l m : Nat} {t : Tmp} {rc : Loop} {W : World} {R : Ending → World → Prop} (x : Value) (hl : W.heap[l]? = some (.loop rc)) (hp : rc.params = #[t])
    (h : rc.assign.wpIn (Fence.wide.inRound l) m Try.prog (Exit.then (fun a₁ w₁ => ∃ w₂, (Instr.beginRound l).run Try.prog w₁ = .ok () w₂ ∧ rc.body.wpIn (Fence.wide.inRound l) m Try.prog (roundPost Try.prog l R) a₁ w₂) (fun _ _ _ => False)) { tmps := rc.tmps.setIfInBounds t x, defers := [] } W) :
    YieldAt Fence.wide m Try.prog l #[x] W R :=
  ⟨_, _, _, _, run_yield hl (by rw [hp]; rfl), roundIn_of_wpIn trivial (by rw [hp]; simpa using h)⟩

theorem own_of_same {w w' : World} {base n e s : Nat} {v : Value} {xs : List Value} (h : w.ownsRow base e s v n xs) (hk : ∀ k, v.ownBlock = some k → w'.heap[k]? = w.heap[k]?) : w'.ownsRow base e s v n xs := by
  refine ⟨h.1, ?_⟩
  rcases h.2 with hn | ⟨g, cap, cur, rfl, hb0, hgg, rest⟩
  · exact .inl hn
  · exact .inr ⟨g, cap, cur, rfl, hb0, by rw [hk g rfl]; exact hgg, rest⟩
theorem keeps_seq {c : Int} {l : List Fr} {f : Fr} (h : keeps c l f = true) : 0 ≤ f.seq ∧ f.seq < 1024 := by
  simp only [keeps, Bool.and_eq_true] at h
  have := (Fr.may_iff f).1 h.1.2
  exact ⟨this.1, this.2.1⟩

set_option maxRecDepth 100000 in
set_option maxHeartbeats 1000000 in
theorem join_any (c : Int) (N : Nat) (sp : Option Addr) (n cap : Nat) (fs : List Fr) (w : World) (hF : FrS N w sp n cap fs) (hN : N ≤ w.heap.size) :
    Calls Try.prog 15 #[.int .u64 c, .slice sp n cap] w (JPost (jn c fs) w) := by
  have hmm := @run_makeMap Try.prog
  have hmf : ∀ (fn : Fn) (first cap : Array Value) (w : World), (Instr.makeFunc fn first cap).run Try.prog w = .ok (.func fn first cap) w := fun _ _ _ _ => rfl
  refine (callsIn_wide (n := 3)).1 ?_
  refine callsIn_of_wp_marks Try.func15 rfl trivial ?_ rfl
  simp only [Try.ntmps15, List.size_toArray, List.length_cons, List.length_nil, Nat.reduceAdd, Nat.reduceSub, Array.replicate_succ, Array.replicate_zero, List.push_toArray, List.append_toArray, List.nil_append, List.cons_append]
  gi_wp2_with (refine ⟨trivial, ?_⟩; gi_at_call 33; go_must (refine (callsIn_wide.2 (those_any sp n cap _ _ _)).mono ?_; rintro e w1 ⟨rfl, hw1⟩))
  clear hw1 hmm hmf w1
  obtain ⟨W0, hW0⟩ : ∃ W0, W0 = (((((w.alloc (.cells #[.int .u64 c] 22)).alloc (.map #[] 0)).alloc (.cells #[.map (some (w.heap.size + 1))] 72)).alloc (.cells #[.int .i64 1024] 3)).alloc (.cells #[.slice sp n cap] 39)).alloc (.cells #[.func (Fn.func 32) #[] #[.pointer (some ⟨w.heap.size + 1 + 1, 0, none⟩), .pointer (some ⟨w.heap.size, 0, none⟩)]] 52) := ⟨_, rfl⟩
  rw [← hW0]
  have hs0 : W0.heap.size = w.heap.size + 6 := by rw [hW0]; simp
  have hb0 : Below w.heap.size w W0 := by
    rw [hW0]
    exact (((((alloc_bel' w _).alloc (by simp) _).alloc (by simp; omega) _).alloc (by simp; omega) _).alloc (by simp; omega) _).alloc (by simp; omega) _
  have a0 : Arr W0 w.heap.size 22 #[.int .u64 c] := by rw [hW0]; exact (((((Arr.new w 22 #[.int .u64 c]).alloc _).alloc _).alloc _).alloc _).alloc _
  have a1 : MapAt W0 (w.heap.size + 1) (fun k => (cnt c (fs.take 0) k).map Fr.val) := by
    have h1 := MapAt.new (w.alloc (.cells #[.int .u64 c] 22))
    rw [World.size_alloc] at h1
    refine h1.same ?_
    rw [hW0, Below.heap_alloc _ _ _ (by simp <;> omega), Below.heap_alloc _ _ _ (by simp <;> omega), Below.heap_alloc _ _ _ (by simp <;> omega), Below.heap_alloc _ _ _ (by simp)]
  have a2 : Arr W0 (w.heap.size + 2) 72 #[.map (some (w.heap.size + 1))] := by
    have h1 := Arr.new ((w.alloc (.cells #[.int .u64 c] 22)).alloc (.map #[] 0)) 72 #[.map (some (w.heap.size + 1))]
    rw [World.size_alloc, World.size_alloc] at h1
    rw [hW0]; exact ((h1.alloc _).alloc _).alloc _
  have a3 : Arr W0 (w.heap.size + 3) 3 #[.int .i64 1024] := by
    have h1 := Arr.new (((w.alloc (.cells #[.int .u64 c] 22)).alloc (.map #[] 0)).alloc (.cells #[.map (some (w.heap.size + 1))] 72)) 3 #[.int .i64 1024]
    rw [World.size_alloc, World.size_alloc, World.size_alloc] at h1
    rw [hW0]; exact (h1.alloc _).alloc _
  have a4 : Arr W0 (w.heap.size + 4) 39 #[.slice sp n cap] := by
    have h1 := Arr.new ((((w.alloc (.cells #[.int .u64 c] 22)).alloc (.map #[] 0)).alloc (.cells #[.map (some (w.heap.size + 1))] 72)).alloc (.cells #[.int .i64 1024] 3)) 39 #[.slice sp n cap]
    rw [World.size_alloc, World.size_alloc, World.size_alloc, World.size_alloc] at h1
    rw [hW0]; exact h1.alloc _
  have a5 : Arr W0 (w.heap.size + 5) 52 #[.func (Fn.func 32) #[] #[.pointer (some ⟨w.heap.size + 2, 0, none⟩), .pointer (some ⟨w.heap.size, 0, none⟩)]] := by
    have h1 := Arr.new (((((w.alloc (.cells #[.int .u64 c] 22)).alloc (.map #[] 0)).alloc (.cells #[.map (some (w.heap.size + 1))] 72)).alloc (.cells #[.int .i64 1024] 3)).alloc (.cells #[.slice sp n cap] 39)) 52 #[.func (Fn.func 32) #[] #[.pointer (some ⟨w.heap.size + 2, 0, none⟩), .pointer (some ⟨w.heap.size, 0, none⟩)]]
    rw [World.size_alloc, World.size_alloc, World.size_alloc, World.size_alloc, World.size_alloc] at h1
    rw [hW0]; exact h1
  clear hW0
  refine wp_range 52 #[.pointer (some ⟨w.heap.size + 4, 0, none⟩), .pointer (some ⟨w.heap.size + 5, 0, none⟩)] rfl (enters_of Try.func52 (by kernel_rfl) rfl) (fun W => ∃ rc, JS c sp n cap fs rc w n W) ?call ?done
  case call =>
    intro rc h1 hpend h2 h3 h4 h5
    rw [hs0]
    have hfs : ∀ (i : Nat) f, fs[i]? = some f → f.n ≤ 140737488355328 := fun i f hf => (hF.ok f (List.mem_of_getElem? hf)).body.small
    refine (those1_in 2 (w.heap.size + 7) (w.heap.size + 4) (w.heap.size + 5) ⟨w.heap.size + 2, 0, none⟩ ⟨w.heap.size, 0, none⟩ N sp n cap fs hfs hF.len hF.small (fun i f => keeps c (fs.take i) f) (JS c sp n cap fs rc w) ?hJ ?hA ?hK ?hY ?hN _ ?h0).mono ?fin
    case hJ => exact fun i W h => ⟨by simpa using h.sl.cell 0, by simpa using h.keep.cell 0, hF.below (h.bel.mono hN)⟩
    case hA => exact fun i W o h => h.below ((alloc_bel' W o).mono h.size)
    case hK =>
      intro i W f h hf
      refine (keep_any f c (cnt c (fs.take i)) (w.heap.size + 1) (w.heap.size + 2) w.heap.size W (hfs i f hf) h.map h.mapv h.chan).mono ?_
      rintro e W' ⟨he, hb⟩
      exact ⟨he, h.below (hb.mono h.size), hb⟩
    case hN =>
      intro i W f h hf hk
      obtain ⟨E, hE, hA⟩ := h.endv
      refine ⟨h.bel, h.chan, ?_, h.mapv, ⟨E, ?_, hA⟩, h.sl, h.keep, h.dfr, h.lrec⟩
      · have : (fun k => (cnt c (fs.take (i + 1)) k).map Fr.val) = (fun k => (cnt c (fs.take i) k).map Fr.val) := by
          funext k; rw [take_next hf, cnt_left hk]
        rw [this]; exact h.map
      · rw [take_next hf]; exact hE.left hk
    case h0 =>
      have hbb : Below (w.heap.size + 6) W0 ((W0.alloc (.deferred (some []))).alloc (.loop rc)) := by
        rw [← hs0]; exact (alloc_bel' W0 _).alloc (by simp) _
      refine ⟨hb0.trans (hbb.mono (by omega)), a0.below hbb (by omega), a1.same (hbb.block _ (by omega)), a2.below hbb (by omega), ⟨1024, Endd.nil c, a3.below hbb (by omega)⟩, a4.below hbb (by omega), a5.below hbb (by omega), ?_, ?_⟩
      · rw [Below.heap_alloc _ _ _ (by simp; omega), ← hs0]; exact heap_alloc_new W0 _
      · have := heap_alloc_new (W0.alloc (.deferred (some []))) (.loop rc)
        rwa [World.size_alloc, hs0] at this
    case fin =>
      rintro e W' ⟨hv, hJ⟩
      exact ⟨hv, ⟨rc, hJ⟩, hJ.lrec, hJ.dfr⟩
    case hY =>
      intro i W f h hf hk
      refine yield_at f.val h.lrec h2 ?_
      rw [h3, h4, h5]
      have hsz := h.size
      obtain ⟨E, hE, hA⟩ := h.endv
      simp only [Fr.val]
      gi_wp2
      have hl1 : (W.alloc (.cells #[.int .u64 f.ch, .int .i64 f.seq, .bool f.last, .slice f.sp f.n f.cap] 25)).heap[w.heap.size + 7]? = some (.loop rc) := (Below.heap_alloc _ _ _ (by omega)).trans h.lrec
      refine ⟨_, run_beginRound hl1 h1, ?_⟩
      obtain ⟨W2, hW2⟩ : ∃ W2, W2 = (W.alloc (.cells #[.int .u64 f.ch, .int .i64 f.seq, .bool f.last, .slice f.sp f.n f.cap] 25)).putObj (w.heap.size + 7) (.loop { rc with state := .busy }) := ⟨_, rfl⟩
      rw [← hW2]
      have hb2 : Below (w.heap.size + 7) W W2 := by rw [hW2]; exact below_put ((alloc_bel' W _).mono (by omega)) (Nat.le_refl _) _
      have hs2 : W2.heap.size = W.heap.size + 1 := by rw [hW2]; simp
      have l2 : W2.heap[w.heap.size + 7]? = some (.loop { rc with state := .busy }) := by rw [hW2]; exact World.putObj_heap_same (by simp; omega)
      have x2 : Arr W2 W.heap.size 25 #[.int .u64 f.ch, .int .i64 f.seq, .bool f.last, .slice f.sp f.n f.cap] := by rw [hW2]; exact (Arr.new W 25 _).put _ (by omega)
      clear hW2 hl1
      have hno : (cnt c (fs.take i) f.seq).map Fr.val = none := by
        have := hk
        simp only [keeps, Bool.and_eq_true, Option.isNone_iff_eq_none] at this
        rw [this.2]; rfl
      obtain ⟨o, hup, m3⟩ := run_update (h.map.same (hb2.block _ (by omega))) f.seq f.val hno
      have q0 := (h.mapv.below hb2 (by omega)).cell 0
      have y0 := x2.cell 0
      have y1 := x2.cell 1
      have y2 := x2.cell 2
      have y3 := x2.cell 3
      have x3 := x2.put (r := w.heap.size + 1) o (by omega)
      have z1 := x3.cell 1
      have z2 := x3.cell 2
      have e3 := (hA.below hb2 (by omega)).put (r := w.heap.size + 1) o (by omega)
      have g3 := e3.cell 0
      have g4 := e3.frozen 0
      simp only [Fr.val] at hup
      simp at q0 y0 y1 y2 y3 z1 z2 g3
      have hmapE : (fun k => (cnt c (fs.take (i + 1)) k).map Fr.val) = (fun j => if j = f.seq then some f.val else (cnt c (fs.take i) j).map Fr.val) := by
        funext k; rw [take_next hf, cnt_kept hk]; split <;> rfl
      replace hmapE := Hid.mk' hmapE
      have l3 : (W2.putObj (w.heap.size + 1) o).heap[w.heap.size + 7]? = some (.loop { rc with state := .busy }) := (World.putObj_heap_other (by omega)).trans l2
      have fin : ∀ (W4 : World) (E' : Nat), Endd c (fs.take (i + 1)) E' → Arr W4 (w.heap.size + 3) 3 #[.int .i64 (E' : Int)] → W4.heap.size = W2.heap.size → W4.os = W2.os → W4.tape = W2.tape → W4.output = W2.output → (∀ b, b ≠ w.heap.size + 3 → W4.heap[b]? = (W2.putObj (w.heap.size + 1) o).heap[b]?) →
          ∃ v w', (Instr.endRound (w.heap.size + 7) none).run Try.prog W4 = .ok v w' ∧ (Ending.returned v = .returned (.bool true) ∧ JS c sp n cap fs rc w (i + 1) w') := by
        intro W4 E' hE' hA4 hsz4 ho ht hou hsame
        have l4 := (hsame (w.heap.size + 7) (by omega)).trans l3
        refine ⟨_, _, run_endRound none l4, rfl, ?_⟩
        have hpt : ∀ b, b ≠ w.heap.size + 1 → b ≠ w.heap.size + 3 → b < w.heap.size + 7 → (W4.putObj (w.heap.size + 7) (.loop { ({ rc with state := .busy } : Loop) with state := if (none : Option Code).isNone then .ready else .done, pending := none })).heap[b]? = W.heap[b]? := fun b h1 h2 h3 => by
          rw [World.putObj_heap_other (by omega), hsame b h2, World.putObj_heap_other h1, hb2.block b h3]
        refine ⟨⟨?_, ?_, ?_, ?_, fun b hb => ?_⟩, (hpt _ (by omega) (by omega) (by omega)).trans h.chan, ?_, (hpt _ (by omega) (by omega) (by omega)).trans h.mapv, ⟨E', hE', hA4.put _ (by omega)⟩, (hpt _ (by omega) (by omega) (by omega)).trans h.sl, (hpt _ (by omega) (by omega) (by omega)).trans h.keep, (hpt _ (by omega) (by omega) (by omega)).trans h.dfr, ?_⟩
        · exact ho.trans (hb2.os.trans h.bel.os)
        · exact ht.trans (hb2.tape.trans h.bel.tape)
        · exact hou.trans (hb2.output.trans h.bel.output)
        · simp; omega
        · exact (hpt b (by omega) (by omega) (by omega)).trans (h.bel.block b hb)
        · rw [hmapE.out]
          refine m3.same ?_
          rw [World.putObj_heap_other (by omega), hsame _ (by omega)]
        · rw [World.putObj_heap_same (by omega)]
          obtain ⟨st, pe, fn', tm, ps, asg, bd, df⟩ := rc
          cases h1; cases hpend
          rfl
      have hk7 := keeps_seq hk
      replace fin := Hid.mk' fin
      replace hE := Hid.mk' hE
      have hf' := Hid.mk' hf
      replace hk := Hid.mk' hk
      clear l2 l3 h1 hpend h2 h3 h4 h5 hno hmapE m3 x2 x3 hA hfs hF a0 a1 a2 a3 a4 a5 hb0 h
      cases hlast : f.last with
      | false =>
        rw [hlast] at hup y2 z2
        have hE' : Endd c (fs.take (i + 1)) E := by rw [take_next hf]; exact hE.out.kept hk.out hlast
        replace hE' := Hid.mk' hE'
        clear hf
        gi_wp2
        exact fin.out _ E hE'.out e3 (by simp) rfl rfl rfl (fun b _ => rfl)
      | true =>
        rw [hlast] at hup y2 z2
        have hE' := hE.out.last hk.out hlast
        rw [← take_next hf] at hE'
        by_cases hle : (E : Int) ≤ f.seq
        · rw [if_pos hle] at hE'
          replace hE' := Hid.mk' hE'
          clear hf
          gi_wp2
          exact fin.out _ E hE'.out (e3.set 0 (.int .i64 (E : Int))) (by simp [World.setCell]) rfl rfl rfl (fun b hb => Below.heap_setCell _ _ _ _ hb)
        · rw [if_neg hle] at hE'
          obtain ⟨s', hs'⟩ : ∃ s' : Nat, f.seq = s' := ⟨f.seq.toNat, by omega⟩
          rw [hs'] at hE' hup y1 z1 hle
          replace hE' := Hid.mk' hE'
          replace hs' := Hid.mk' hs'
          rw [hs'.out]
          clear hf hk7
          gi_wp2
          exact fin.out _ s' hE'.out (e3.set 0 (.int .i64 (s' : Int))) (by simp [World.setCell]) rfl rfl rfl (fun b hb => Below.heap_setCell _ _ _ _ hb)
  case done =>
    rintro W' o ⟨rc, hJ⟩ hk
    rw [hs0] at hk ⊢
    obtain ⟨E, hE, hA⟩ := hJ.endv
    have hsz := hJ.size
    have q2 := (hJ.mapv.put (r := w.heap.size + 7) o (by omega)).cell 0
    have q3 := (hA.put (r := w.heap.size + 7) o (by omega)).cell 0
    simp at q2 q3
    have hM : MapAt (W'.putObj (w.heap.size + 7) o) (w.heap.size + 1) (fun k => (cnt c fs k).map Fr.val) := by
      have := hJ.map
      rw [List.take_of_length_le (by rw [← hF.len.out]; exact Nat.le_refl _)] at this
      exact this.same (World.putObj_heap_other (by omega))
    rw [List.take_of_length_le (by rw [← hF.len.out]; exact Nat.le_refl _)] at hE
    have hbw : Below w.heap.size w (W'.putObj (w.heap.size + 7) o) := below_put hJ.bel (by omega) _
    have hk' : (W'.putObj (w.heap.size + 7) o).heap[w.heap.size + 6]? = some (.deferred (some [])) := (World.putObj_heap_other (by omega)).trans hk
    have hok : ∀ f ∈ fs, FrOK N (W'.putObj (w.heap.size + 7) o) f := fun f hf => (hF.ok f hf).below (hbw.mono hN)
    have hE4 := hE.le
    have hbj := Hid.mk' (bod_jn hE)
    have hsw : w.heap.size + 8 ≤ (W'.putObj (w.heap.size + 7) o).heap.size := by simpa using hsz
    clear hJ hk hA hsz a0 a1 a2 a3 a4 a5 hb0 hF
    generalize W'.putObj (w.heap.size + 7) o = W1 at *
    gi_wp2_with (refine ⟨trivial, ?_⟩; gi_at_call 34; go_must (refine (callsIn_wide.2 (bodies_any c fs N (w.heap.size + 1) E W1 hM (by omega) hok (by omega))).mono ?_; rintro e W2 ⟨hb2, ⟨ho, rfl⟩ | ⟨D, v2, ho, hDl, hDb, rfl, hown2⟩⟩))
    · have hK : W2.heap[w.heap.size + 6]? = some (.deferred (some [])) := (hb2.block _ (by omega)).trans hk'
      refine ⟨by simp, .inl ⟨_, _, rfl, run_takeDeferred hK, ?_⟩⟩
      refine ⟨_, results_tmp2 rfl _ _ _, below_put (hbw.trans (hb2.mono (by omega))) (by omega) _, .inl ⟨?_, rfl⟩⟩
      rw [← hbj.out]; exact ho
    · have hK : W2.heap[w.heap.size + 6]? = some (.deferred (some [])) := (hb2.block _ (by omega)).trans hk'
      refine ⟨by simp, .inl ⟨_, _, rfl, run_takeDeferred hK, ?_⟩⟩
      refine ⟨_, results_tmp2 rfl _ _ _, below_put (hbw.trans (hb2.mono (by omega))) (by omega) _, .inr ⟨D, _, ?_, hDl, hDb, rfl, ?_⟩⟩
      · rw [← hbj.out]; exact ho
      · exact own_mono (own_of_same hown2 (fun k hk => World.putObj_heap_other (by have := own_ge hown2 k hk; omega))) (by omega)
end Go.Proofs.Ytbjlmekafnpllab
