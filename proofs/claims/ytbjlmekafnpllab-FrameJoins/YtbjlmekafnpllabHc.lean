/- Layer frame, the document's answer: Split. -/
import Derived.Test.YtbjlmekafnpllabHb
namespace Go.Proofs.Ytbjlmekafnpllab
open Go.RowKit
set_option linter.unusedVariables false
set_option linter.unusedSimpArgs false

set_option maxRecDepth 100000 in
set_option maxHeartbeats 400000 in
theorem refSplit_bad (c z : Int) (sp : Option Addr) (n cap : Nat) (L : List Int) (N : Nat) (w : World) (hS : BS N w sp n cap L) (hz0 : -9223372036854775808 ≤ z) (hz1 : z ≤ 9223372036854775807) (h : z < 1 ∨ 4096 < z ∨ z * 1024 < L.length) :
    Calls Try.prog 18 #[.int .u64 c, .slice sp n cap, .int .i64 z] w (SPost c z L w) := by
  have hln := hS.len
  rw [← hln.out] at h
  have hfin : ∀ e, e = Ending.returned (.tuple #[.slice none 0 0, .int .i64 2]) → SPost c z L w e w := fun e he => ⟨Below.refl _ _, .inl ⟨by rw [← hln.out]; exact h, he⟩⟩
  replace hfin := Hid.mk' hfin
  by_cases h1 : z < 1
  · clear h
    go_enter Try.func18, Try.ntmps18
    go_wp2
    go_ret2
    exact hfin.out _ rfl
  · by_cases h2 : 4096 < z
    · clear h
      go_enter Try.func18, Try.ntmps18
      go_wp2
      go_ret2
      exact hfin.out _ rfl
    · have h3 : z * 1024 < n := by omega
      clear h
      have hw : IntKind.i64.wrap (z * 1024) = z * 1024 := by rw [IntKind.wrap_i64]; omega
      go_enter Try.func18, Try.ntmps18
      go_wp2
      go_ret2
      exact hfin.out _ rfl

theorem wp_append_at {o : Oper} {a : Act} {w : World} {K : Act → World → Prop} {Q : Exit → Act → World → Prop} (s x : Operand)
    (ho : o.op = .call { callee := .builtin .append, args := #[s, x], argTypes := #[23, 23] })
    (base : Nat) (v : Value) (n : Nat) (L : List Int) (hs : a.eval s = v) (hown : w.ownsRow base 5 1 v n (by8 L))
    (ad : Addr) (y : Int) (hx : a.eval x = .slice (some ad) 1 1) (hS : SlL w (some ad) [y]) (hb : n + 1 ≤ 140737488355328) (hbase : base ≤ w.heap.size)
    (h : ∀ v' w', w'.ownsRow base 5 1 v' (n + 1) (by8 (L ++ [y])) → w.grownBy w' v.ownBlock → (v'.ownBlock = v.ownBlock ∨ v'.ownBlock = some w.heap.size) → K (a.put o.dst v') w') : o.wp Try.prog a w K Q := by
  obtain ⟨i0, hi, hz0, hz1, hz2⟩ := info_parts info5
  have hnews : ∀ j u, (by8 [y])[j]? = some u → w.cell? (ad.add j) = some u := by
    intro j u hj
    have hjl : j < [y].length := by have := (List.getElem?_eq_some_iff.1 hj).1; rwa [by8_len] at this
    obtain ⟨b, off, e, hB⟩ := hS (by simp)
    obtain rfl := Option.some.inj e
    rw [by8_get hjl] at hj
    rw [Addr.add_mid, hB j hjl]; exact hj
  obtain ⟨v', w', hr, h2, h3, -⟩ := run_append_own (P := Try.prog) w base 23 o.type 5 i0 _ 1 1 Try.underlying23 hi hz0 hz1 hz2 rfl (by omega) v n _ hown ad 1 1 (by8 [y]) rfl hnews (by8_one [y]) (Nat.le_trans hb maxLen_ge) (by omega) hbase
  have h4 := append_block (base := base) Try.underlying23 hi hz0 (by rw [hz1]; rfl) (by omega) (by rw [hz1]; exact hown) (by omega) (by rw [hz1]; rfl) hnews (by8_one [y]) (Nat.le_trans hb maxLen_ge) (by rw [hz2]; omega) hr
  unfold Oper.wp execOp
  simp only [ho, resolve, invoke, builtin, Sem.run_bind, Sem.run_pure, Result.andThen_ok, List.map_toArray, List.map_cons, List.map_nil, hs, hx, hr]
  exact h v' w' (by rw [by8_app]; exact h2) h3 h4
/-- append of a byte onto a row, in a region that draws its order; W: the world but for what was drawn. -/
theorem step_append_at {ops : Array Oper} {o : Oper} {a : Act} {w : World} {K : Act → World → Prop} {Q : Exit → Act → World → Prop} {E : Prop} (hgd : o.guard = none) (s x : Operand)
    (ho : o.op = .call { callee := .builtin .append, args := #[s, x], argTypes := #[23, 23] }) (W : World) (hW : w.heap = W.heap ∧ w.os = W.os ∧ w.tape = W.tape ∧ w.output = W.output)
    (base : Nat) (v : Value) (n : Nat) (L : List Int) (hs : a.eval s = v) (hown : W.ownsRow base 5 1 v n (by8 L))
    (ad : Addr) (y : Int) (hx : a.eval x = .slice (some ad) 1 1) (hS : SlL W (some ad) [y]) (hb : n + 1 ≤ 140737488355328) (hbase : base ≤ W.heap.size)
    (h : ∀ v' w', w'.ownsRow base 5 1 v' (n + 1) (by8 (L ++ [y])) → W.grownBy w' v.ownBlock → (v'.ownBlock = v.ownBlock ∨ v'.ownBlock = some W.heap.size) → K (a.put o.dst v') w') :
    if Region.wanted o (yielded ops a.tmps) = true then Oper.wp Try.prog o a w K Q else E := by
  obtain ⟨e1, e2, e3, e4⟩ := hW
  refine step_want hgd (wp_append_at s x ho base v n L hs (by unfold World.ownsRow at hown ⊢; rw [e1]; exact hown) ad y hx ?_ hb (by rw [e1]; exact hbase) fun v' w' h1 h2 h3 => h v' w' h1 ⟨h2.os.trans e2, h2.tape.trans e3, h2.output.trans e4, by rw [← e1]; exact h2.size, fun i hi hne => by rw [← e1]; exact h2.block i (by rw [e1]; exact hi) hne⟩ (by rw [← e1]; exact h3))
  intro h0
  obtain ⟨b, off, e, hB⟩ := hS h0
  refine ⟨b, off, e, fun t ht => ?_⟩
  rw [World.cell?_of_block (w := W) (by rw [e1])]; exact hB t ht
theorem own_lenF {w : World} {base n : Nat} {v : Value} {L : List Int} (h : w.ownsRow base 5 1 v n (by8 L)) : L.length = n := by
  have := h.1; rw [by8_len] at this; omega

/-- The first bytes, in frames: the last one may be empty. -/
structure Mid0 (c : Int) (z : Nat) (L : List Int) (i : Nat) (X : List Fr) (f : Fr) : Prop where
  full : ∀ (j : Nat) g, X[j]? = some g → g.ch = c ∧ g.seq = j ∧ g.last = false ∧ g.bs.length = z
  fch : f.ch = c
  fseq : f.seq = X.length
  flast : f.last = false
  fle : f.bs.length ≤ z
  all : (X.map (·.bs)).flatten ++ f.bs = L.take i
theorem Mid0.mid {c : Int} {z : Nat} {L : List Int} {i : Nat} {X : List Fr} {f : Fr} (h : Mid0 c z L i X f) (hp : X = [] ∨ 0 < f.bs.length) : Mid c z L i X f := ⟨h.full, h.fch, h.fseq, h.flast, h.fle, hp, h.all⟩
theorem Mid0.bts {c : Int} {z : Nat} {L : List Int} {i : Nat} {X : List Fr} {f : Fr} (h : Mid0 c z L i X f) (hL : Bts L) : Bts f.bs := fun x hx => hL x (List.mem_of_mem_take (i := i) (by rw [← h.all]; exact List.mem_append_right _ hx))
/-- What the document's Split has in memory: its frames, and the Body that is being filled. -/
structure RSt (c : Int) (z : Nat) (L : List Int) (w : World) (i g cq : Nat) (X : List Fr) (f : Fr) (wr : World) : Prop where
  mid : Mid0 c z L i X f
  own : wr.ownsRow w.heap.size 25 4 (.slice (some ⟨g, 0, none⟩) (X.length + 1) cq) (X.length + 1) (flat4 (X ++ [f]))
  body : wr.ownsRow w.heap.size 5 1 (.slice f.sp f.n f.cap) f.n (by8 f.bs)
  ne : ∀ b, (Value.slice f.sp f.n f.cap).ownBlock = some b → b ≠ g
  of : ∀ x ∈ X, OF (fun b => w.heap.size ≤ b ∧ b ≠ g ∧ some b ≠ (Value.slice f.sp f.n f.cap).ownBlock) wr x
  Xi : X.length ≤ i
  bel : Below w.heap.size w wr
theorem take_snoc {L : List Int} {i : Nat} (hi : i < L.length) : L.take (i + 1) = L.take i ++ [bat L i] := by
  rw [List.take_add_one, List.getElem?_eq_getElem hi]
  simp [bat, List.getD_eq_getElem?_getD, List.getElem?_eq_getElem hi]
/-- One byte more. -/
theorem RSt.fill {c : Int} {z : Nat} {L : List Int} {w : World} {i g cq : Nat} {X : List Fr} {f : Fr} {wr : World} (h : RSt c z L w i g cq X f wr) (hi : i < L.length) (hz : f.n < z) {o : Obj} {w4 : World} {b4 c4 q : Nat} (hq : X.length = q)
    (hown4 : w4.ownsRow w.heap.size 5 1 (.slice (some ⟨b4, 0, none⟩) (f.n + 1) c4) (f.n + 1) (by8 (f.bs ++ [bat L i]))) (hg4 : (wr.alloc o).grownBy w4 (Value.slice f.sp f.n f.cap).ownBlock)
    (hob4 : (Value.slice (some ⟨b4, 0, none⟩) (f.n + 1) c4).ownBlock = (Value.slice f.sp f.n f.cap).ownBlock ∨ (Value.slice (some ⟨b4, 0, none⟩) (f.n + 1) c4).ownBlock = some (wr.alloc o).heap.size) :
    RSt c z L w (i + 1) g cq X ⟨f.ch, f.seq, f.last, some ⟨b4, 0, none⟩, f.n + 1, c4, f.bs ++ [bat L i]⟩ (w4.setCell ⟨g, q * 4 + 3, none⟩ (.slice (some ⟨b4, 0, none⟩) (f.n + 1) c4)) := by
  have hgl := (h.own.lt g rfl)
  have hfl := own_lenF h.body
  have hs4 := hg4.size
  simp at hs4
  have hb4 : b4 ≠ g := by
    rcases hob4 with e | e
    · exact h.ne b4 (by rw [← e]; rfl)
    · have e : b4 = wr.heap.size + 1 := by simpa [Value.ownBlock] using e
      omega
  have hkeep : w4.heap[g]? = wr.heap[g]? := by
    rw [hg4.block g (by simp; omega) (fun e => h.ne g e.symm rfl), Below.heap_alloc _ _ _ hgl.2]
  have how4 : w4.ownsRow w.heap.size 25 4 (.slice (some ⟨g, 0, none⟩) (X.length + 1) cq) (X.length + 1) (flat4 (X ++ [f])) := own_of_block h.own (fun k e => by cases e; exact hkeep)
  have hset : ∀ b, b ≠ g → (w4.setCell ⟨g, q * 4 + 3, none⟩ (.slice (some ⟨b4, 0, none⟩) (f.n + 1) c4)).heap[b]? = w4.heap[b]? := fun b hb => Below.heap_setCell _ _ _ _ hb
  refine ⟨⟨h.mid.full, h.mid.fch, h.mid.fseq, h.mid.flast, by simp; omega, ?_⟩, own_setBody how4 rfl hq.symm _ _ _ _, ?_, fun b e => ?_, fun x hx => ?_, by have := h.Xi; omega, ?_⟩
  · rw [take_snoc hi, ← h.mid.all]; simp
  · exact own_of_block hown4 (fun k e => by cases e; exact hset b4 hb4)
  · cases e; exact hb4
  · have h1 := (h.of x hx).mono (T := fun b => w.heap.size ≤ b ∧ b ≠ g ∧ some b ≠ (Value.slice f.sp f.n f.cap).ownBlock ∧ b < wr.heap.size) (fun b hb h => ⟨h.1, h.2.1, h.2.2, hb⟩)
    have h2 := h1.agree (w' := w4.setCell ⟨g, q * 4 + 3, none⟩ (.slice (some ⟨b4, 0, none⟩) (f.n + 1) c4)) ⟨by simp [World.setCell]; omega, fun b hb h => by rw [hset b h.2.1, hg4.block b (by simp; omega) h.2.2.1, Below.heap_alloc _ _ _ hb]⟩
    refine h2.mono fun b _ h => ⟨h.1, h.2.1, ?_⟩
    rcases hob4 with e | e
    · rw [e]; exact h.2.2.1
    · rw [e]; simp; omega
  · have hsz := h.bel.size
    exact ((h.bel.alloc hsz _).grown hg4 (by simp; omega) (fun k e => own_ge h.body k e)).setCell (p := ⟨g, q * 4 + 3, none⟩) hgl.1 _
/-- A new frame. -/
theorem RSt.next {c : Int} {z : Nat} {L : List Int} {w : World} {i g cq : Nat} {X : List Fr} {f : Fr} {wr : World} (h : RSt c z L w i g cq X f wr) (hL : Bts L) (hz : f.n = z) (hz1 : 1 ≤ z) (hz2 : z ≤ 4096) (hc0 : 0 ≤ c) (hc1 : c ≤ 18446744073709551615) (hXi : X.length < i) (hi : i ≤ 4194304) {o : Obj} {w4 : World} {b4 c4 : Nat}
    (hown4 : w4.ownsRow w.heap.size 25 4 (.slice (some ⟨b4, 0, none⟩) (X.length + 1 + 1) c4) (X.length + 1 + 1) (flat4 (X ++ [f] ++ [⟨c, ((X.length + 1 : Nat) : Int), false, none, 0, 0, []⟩]))) (hg4 : (wr.alloc o).grownBy w4 (some g)) (hob4 : b4 = g ∨ b4 = wr.heap.size + 1) :
    RSt c z L w i b4 c4 (X ++ [f]) ⟨c, ((X.length + 1 : Nat) : Int), false, none, 0, 0, []⟩ w4 := by
  have hgl := (h.own.lt g rfl)
  have hs4 := hg4.size
  simp at hs4
  have hsz := h.bel.size
  have tr : ∀ x, OF (fun b => w.heap.size ≤ b ∧ b ≠ g) wr x → OF (fun b => w.heap.size ≤ b ∧ b ≠ b4 ∧ some b ≠ (Value.slice none 0 0).ownBlock) w4 x := fun x hx => by
    have h1 := hx.mono (T := fun b => w.heap.size ≤ b ∧ b ≠ g ∧ b < wr.heap.size) (fun b hb h => ⟨h.1, h.2, hb⟩)
    have h2 := h1.agree (w' := w4) ⟨by omega, fun b hb h => by rw [hg4.block b (by simp; omega) (fun e => h.2.1 (by simpa using e)), Below.heap_alloc _ _ _ hb]⟩
    exact h2.mono fun b _ h => ⟨h.1, by omega, by simp [Value.ownBlock]⟩
  refine ⟨⟨fun j g' hg' => ?_, rfl, by simp, rfl, Nat.zero_le _, ?_⟩, by rw [List.length_append]; exact hown4, World.ownsRow_nil _ _ _ _, fun b e => (by simp [Value.ownBlock] at e), fun x hx => ?_, by rw [List.length_append]; exact hXi, (h.bel.alloc hsz _).grown hg4 (by simp; omega) (fun k e => by cases e; exact hgl.1)⟩
  · by_cases hj : j < X.length
    · rw [List.getElem?_append_left hj] at hg'
      exact h.mid.full j g' hg'
    · have hjx : j = X.length := by
        have := (List.getElem?_eq_some_iff.1 hg').1
        simp at this; omega
      subst hjx
      simp at hg'
      subst hg'
      refine ⟨h.mid.fch, h.mid.fseq, h.mid.flast, ?_⟩
      rw [own_lenF h.body, hz]
  · rw [← h.mid.all]; simp
  rcases List.mem_append.1 hx with hx | hx
  · exact tr x ((h.of x hx).mono fun b _ h => ⟨h.1, h.2.1⟩)
  · simp at hx; subst hx
    refine tr x ⟨by rw [h.mid.fch]; exact hc0, by rw [h.mid.fch]; exact hc1, by rw [h.mid.fseq]; omega, by rw [h.mid.fseq]; omega, ?_⟩
    obtain ⟨s', c', e', hB, hge⟩ := own_bs h.body (h.mid.bts hL) (by omega)
    cases e'
    exact ⟨hB, own_mono h.body (Nat.zero_le _), fun b off e => ⟨(hge b off e).1, h.ne b (by rw [e]; rfl)⟩⟩
/-- What the next steps need of the world after an append of a byte to the Body. -/
theorem RSt.keep {c : Int} {z : Nat} {L : List Int} {w : World} {i g cq : Nat} {X : List Fr} {f : Fr} {wr : World} (h : RSt c z L w i g cq X f wr) {q : Nat} (hq : X.length = q) {o : Obj} {w4 : World} (hg4 : (wr.alloc o).grownBy w4 (Value.slice f.sp f.n f.cap).ownBlock) :
    w4.frozen? ⟨g, q * 4 + 3, none⟩ = false ∧ w4.cell? ⟨g, q * 4 + 3, none⟩ = some (.slice f.sp f.n f.cap) := by
  subst hq
  have hgl := (h.own.lt g rfl)
  have hkeep : w4.heap[g]? = wr.heap[g]? := by
    rw [hg4.block g (by simp; omega) (fun e => h.ne g e.symm rfl), Below.heap_alloc _ _ _ hgl.2]
  obtain ⟨f0, f1, f2, f3⟩ := own_cellF h.own (show (X ++ [f])[X.length]? = some f by simp)
  refine ⟨?_, by rw [World.cell?_of_block (w := wr) hkeep]; exact f3⟩
  have := own_frozen (j := X.length * 4 + 3) h.own
  unfold World.frozen? at this ⊢
  simp only [hkeep]; exact this
end Go.Proofs.Ytbjlmekafnpllab
