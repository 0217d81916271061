/- Layer frame: rows of frames that are written, and appended to. -/
import Derived.Test.YtbjlmekafnpllabGa
import Derived.Test.YtbjlmekafnpllabSb
import Derived.Deep.MidRow
import Derived.Deep.RegionLaw
namespace Go.Proofs.Ytbjlmekafnpllab
open Go.RowKit
set_option linter.unusedVariables false
set_option linter.unusedSimpArgs false

theorem flat4_cons (x : Fr) (A : List Fr) : flat4 (x :: A) = [.int .u64 x.ch, .int .i64 x.seq, .bool x.last, .slice x.sp x.n x.cap] ++ flat4 A := by simp [flat4]
theorem flat4_app (A B : List Fr) : flat4 (A ++ B) = flat4 A ++ flat4 B := by simp [flat4]
theorem flat4_set : ∀ (A : List Fr) (i : Nat) (f : Fr), i < A.length → flat4 (A.set i f) = ((((flat4 A).set (i * 4) (.int .u64 f.ch)).set (i * 4 + 1) (.int .i64 f.seq)).set (i * 4 + 2) (.bool f.last)).set (i * 4 + 3) (.slice f.sp f.n f.cap)
  | [], i, f, h => by simp at h
  | x :: A, 0, f, h => by rw [List.set_cons_zero, flat4_cons, flat4_cons]; rfl
  | x :: A, i + 1, f, h => by
    have h4 : ∀ (X : List Value) (j : Nat) (v : Value), (([.int .u64 x.ch, .int .i64 x.seq, .bool x.last, .slice x.sp x.n x.cap] : List Value) ++ X).set (j + 4) v = [.int .u64 x.ch, .int .i64 x.seq, .bool x.last, .slice x.sp x.n x.cap] ++ X.set j v := fun X j v => by
      rw [List.set_append_right _ _ (by simp)]; congr 1
    rw [List.set_cons_succ, flat4_cons, flat4_cons, flat4_set A i f (by simpa using h), show (i + 1) * 4 = i * 4 + 4 by omega, h4, show i * 4 + 4 + 1 = (i * 4 + 1) + 4 by omega, h4, show i * 4 + 4 + 2 = (i * 4 + 2) + 4 by omega, h4, show i * 4 + 4 + 3 = (i * 4 + 3) + 4 by omega, h4]
/-- A frame put in the place of another. -/
def putF (w : World) (g i : Nat) (f : Fr) : World :=
  (((w.setCell ⟨g, i * 4, none⟩ (.int .u64 f.ch)).setCell ⟨g, i * 4 + 1, none⟩ (.int .i64 f.seq)).setCell ⟨g, i * 4 + 2, none⟩ (.bool f.last)).setCell ⟨g, i * 4 + 3, none⟩ (.slice f.sp f.n f.cap)
theorem own_setF {w : World} {base g n cap i : Nat} {A : List Fr} (h : w.ownsRow base 25 4 (.slice (some ⟨g, 0, none⟩) n cap) n (flat4 A)) (hA : n = A.length) (hi : i < n) (f : Fr) : (putF w g i f).ownsRow base 25 4 (.slice (some ⟨g, 0, none⟩) n cap) n (flat4 (A.set i f)) := by
  obtain ⟨hl, h | ⟨g', cap', cur, e, hg, hh, hn, hm, hc, ht⟩⟩ := h
  · cases h.1
  · cases e
    have hAr : Arr w g 25 cur := hh
    refine ⟨by rw [flat4_len, List.length_set]; omega, .inr ⟨g, cap, _, rfl, hg, (((hAr.set _ _).set _ _).set _ _).set _ _, hn, hm, by simpa using hc, ?_⟩⟩
    rw [flat4_set A i f (by omega), ← ht]
    simp only [Array.toList_setIfInBounds, List.take_set]
theorem putF_other {w : World} {g i b : Nat} {f : Fr} (h : b ≠ g) : (putF w g i f).heap[b]? = w.heap[b]? := by
  unfold putF
  rw [Below.heap_setCell _ _ _ _ h, Below.heap_setCell _ _ _ _ h, Below.heap_setCell _ _ _ _ h, Below.heap_setCell _ _ _ _ h]
theorem putF_size (w : World) (g i : Nat) (f : Fr) : (putF w g i f).heap.size = w.heap.size := by simp [putF, World.setCell]
theorem putF_below {B : Nat} {a w : World} (h : Below B a w) {g i : Nat} (hg : B ≤ g) (f : Fr) : Below B a (putF w g i f) :=
  ⟨h.os, h.tape, h.output, by rw [putF_size]; exact h.size, fun k hk => (putF_other (by omega)).trans (h.block k hk)⟩
/-- A row of frames: a frame's four cells. -/
theorem own_cellF {w : World} {base g n cap i : Nat} {A : List Fr} {f : Fr} (h : w.ownsRow base 25 4 (.slice (some ⟨g, 0, none⟩) n cap) n (flat4 A)) (hf : A[i]? = some f) :
    w.cell? ⟨g, i * 4, none⟩ = some (.int .u64 f.ch) ∧ w.cell? ⟨g, i * 4 + 1, none⟩ = some (.int .i64 f.seq) ∧ w.cell? ⟨g, i * 4 + 2, none⟩ = some (.bool f.last) ∧ w.cell? ⟨g, i * 4 + 3, none⟩ = some (.slice f.sp f.n f.cap) := by
  obtain ⟨h1, h2, h3, h4⟩ := flat4_get i f hf
  have hc : ∀ t u, (flat4 A)[t]? = some u → w.cell? ⟨g, t, none⟩ = some u := fun t u hu => by
    have := h.cells (g := g) rfl t u hu
    rwa [Addr.add_mid, Nat.zero_add] at this
  exact ⟨hc _ _ h1, hc _ _ h2, hc _ _ h3, hc _ _ h4⟩
theorem own_frozen {w : World} {base g n cap e s j : Nat} {xs : List Value} (h : w.ownsRow base e s (.slice (some ⟨g, 0, none⟩) n cap) n xs) : w.frozen? ⟨g, j, none⟩ = false := by
  obtain ⟨hl, h | ⟨g', cap', cur, e, hg, hh, hn, hm, hc, ht⟩⟩ := h
  · cases h.1
  · cases e
    have hAr : Arr w g _ cur := hh
    exact hAr.frozen j
/-- append of frames onto a slice of the call's own. -/
theorem append_frames {ops : Array Oper} {rest : List Oper} {o : Oper} {a : Act} {w : World} {Q : Exit → Act → World → Prop} (hgd : Region.wanted o (yielded ops a.tmps) = true) (s x : Operand)
    (ho : o.op = .call { callee := .builtin .append, args := #[s, x], argTypes := #[39, 39] })
    (base : Nat) (v : Value) (m : Nat) (fs : List Fr) (hs : a.eval s = v) (hown : w.ownsRow base 25 4 v m (flat4 fs))
    (g : Nat) (k c : Nat) (gs : List Fr) (hx : a.eval x = .slice (some ⟨g, 0, none⟩) k c) (hk : k = gs.length) (hk0 : 0 < k) (hcell : ∀ j u, (flat4 gs)[j]? = some u → w.cell? ⟨g, j, none⟩ = some u) (hb : m + k ≤ 1000000000) (hbase : base ≤ w.heap.size)
    (h : ∀ v' w', w'.ownsRow base 25 4 v' (m + k) (flat4 (fs ++ gs)) → w.grownBy w' v.ownBlock → (v'.ownBlock = v.ownBlock ∨ v'.ownBlock = some w.heap.size) → wpList Try.prog ops Q rest (a.put o.dst v') w') : wpList Try.prog ops Q (o :: rest) a w := by
  obtain ⟨i0, hi, hz0, hz1, hz2⟩ := info_parts info25F
  refine wpList_want hgd fun K hK => ?_
  have hnews : ∀ j u, (flat4 gs)[j]? = some u → w.cell? ((⟨g, 0, none⟩ : Addr).add j) = some u := by
    intro j u hj
    rw [Addr.add_mid, Nat.zero_add]; exact hcell j u hj
  have h1 : ∀ u ∈ flat4 gs, u.oneCell' = true := by
    intro u hu
    simp only [flat4, List.mem_flatMap] at hu
    obtain ⟨f, -, hu⟩ := hu
    simp at hu; rcases hu with rfl | rfl | rfl | rfl <;> rfl
  have hl : (flat4 gs).length = k * 4 := by rw [flat4_len, hk]
  obtain ⟨v', w', hr, h2, h3, -⟩ := run_append_own (P := Try.prog) w base 39 o.type 25 i0 _ 4 48 Try.underlying39 hi hz0 hz1 hz2 rfl (by omega) v m _ hown ⟨g, 0, none⟩ k c (flat4 gs) hl hnews h1 (by unfold maxLen; omega) (by omega) hbase
  have h4 := append_block (base := base) Try.underlying39 hi hz0 (by rw [hz1]; rfl) (by omega) (by rw [hz1]; exact hown) hk0 (by rw [hz1]; exact hl) hnews h1 (by unfold maxLen; omega) (by rw [hz2]; omega) hr
  unfold Oper.wp execOp
  simp only [ho, resolve, invoke, builtin, Sem.run_bind, Sem.run_pure, Result.andThen_ok, List.map_toArray, List.map_cons, List.map_nil, hs, hx, hr]
  exact hK _ _ (h v' w' (by rw [flat4_app]; exact h2) h3 h4)
theorem own_someF {w : World} {base n e s : Nat} {v : Value} {xs : List Value} (h : w.ownsRow base e s v n xs) (hn : 0 < n) : ∃ g cap, v = .slice (some ⟨g, 0, none⟩) n cap := by
  obtain ⟨-, h | ⟨g, cap, cur, rfl, -⟩⟩ := h
  · omega
  · exact ⟨g, cap, rfl⟩
theorem own_drewN {w : World} {base e s n : Nat} {v : Value} {xs : List Value} (h : w.ownsRow base e s v n xs) (q : Nat) : (w.drewN q).ownsRow base e s v n xs := h
theorem own_thereF {w : World} {base g n cap i : Nat} {A : List Fr} (h : w.ownsRow base 25 4 (.slice (some ⟨g, 0, none⟩) n cap) n (flat4 A)) (hA : n = A.length) (hi : i < n) : w.there g (i * 4) 4 := by
  intro j hj
  obtain ⟨h1, h2, h3, h4⟩ := own_cellF h (List.getElem?_eq_getElem (by omega : i < A.length))
  refine ⟨?_, own_frozen h⟩
  match j, hj with
  | 0, _ => rw [Nat.add_zero, h1]; rfl
  | 1, _ => rw [h2]; rfl
  | 2, _ => rw [h3]; rfl
  | 3, _ => rw [h4]; rfl
/-- A frame is stored into a row of frames, in a region that draws its order. -/
theorem step_store_frame {ops : Array Oper} {o : Oper} {a : Act} {w : World} {K : Act → World → Prop} {Q : Exit → Act → World → Prop} {E : Prop} (hgd : o.guard = none) (x y : Operand) (ho : o.op = .store 25 x y)
    (base g n cap i : Nat) (A : List Fr) (f : Fr) (hx : a.eval x = .pointer (some ⟨g, i * 4, none⟩)) (hy : a.eval y = .agg #[.int .u64 f.ch, .int .i64 f.seq, .bool f.last, .slice f.sp f.n f.cap])
    (hown : w.ownsRow base 25 4 (.slice (some ⟨g, 0, none⟩) n cap) n (flat4 A)) (hA : n = A.length) (hi : i < n) (h : K (a.put o.dst undef) (putF w g i f)) :
    if Region.wanted o (yielded ops a.tmps) = true then Oper.wp Try.prog o a w K Q else E :=
  step_want hgd (wp_store_mid 25 x y ho g (i * 4) _ hx hy (own_thereF hown hA hi) size25F (one4 _ _ _ _ _ _) h)
end Go.Proofs.Ytbjlmekafnpllab
