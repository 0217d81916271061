/- Layer frame: frames of the call's own. -/
import Derived.Test.YtbjlmekafnpllabFf
import Derived.Test.YtbjlmekafnpllabRn
namespace Go.Proofs.Ytbjlmekafnpllab
open Go.RowKit
set_option linter.unusedVariables false
set_option linter.unusedSimpArgs false

/-- Frames as cells. -/
def flat4 (fs : List Fr) : List Value := fs.flatMap fun f => [.int .u64 f.ch, .int .i64 f.seq, .bool f.last, .slice f.sp f.n f.cap]
theorem flat4_snoc (fs : List Fr) (f : Fr) : flat4 (fs ++ [f]) = flat4 fs ++ [.int .u64 f.ch, .int .i64 f.seq, .bool f.last, .slice f.sp f.n f.cap] := by simp [flat4]
theorem flat4_len (fs : List Fr) : (flat4 fs).length = fs.length * 4 := by
  induction fs with
  | nil => rfl
  | cons f fs ih =>
    have : flat4 (f :: fs) = [.int .u64 f.ch, .int .i64 f.seq, .bool f.last, .slice f.sp f.n f.cap] ++ flat4 fs := by simp [flat4]
    rw [this, List.length_append, ih]; simp; omega
theorem flat4_get : ∀ {fs : List Fr} (i : Nat) (f : Fr), fs[i]? = some f → (flat4 fs)[i * 4]? = some (.int .u64 f.ch) ∧ (flat4 fs)[i * 4 + 1]? = some (.int .i64 f.seq) ∧ (flat4 fs)[i * 4 + 2]? = some (.bool f.last) ∧ (flat4 fs)[i * 4 + 3]? = some (.slice f.sp f.n f.cap)
  | [], i, f, h => by simp at h
  | x :: fs, 0, f, h => by simp at h; subst h; simp [flat4]
  | x :: fs, i + 1, f, h => by
    obtain ⟨h1, h2, h3, h4⟩ := flat4_get (fs := fs) i f (by simpa using h)
    have hf : flat4 (x :: fs) = [.int .u64 x.ch, .int .i64 x.seq, .bool x.last, .slice x.sp x.n x.cap] ++ flat4 fs := by simp [flat4]
    rw [hf]
    refine ⟨?_, ?_, ?_, ?_⟩
    · rw [List.getElem?_append_right (by simp; omega), ← h1]; congr 1; simp; omega
    · rw [List.getElem?_append_right (by simp; omega), ← h2]; congr 1; simp; omega
    · rw [List.getElem?_append_right (by simp; omega), ← h3]; congr 1; simp; omega
    · rw [List.getElem?_append_right (by simp; omega), ← h4]; congr 1; simp; omega
/-- A frame whose Body is a row of its own, in some blocks. -/
structure OF (S : Nat → Prop) (w : World) (f : Fr) : Prop where
  ch0 : 0 ≤ f.ch
  ch1 : f.ch ≤ 18446744073709551615
  sq0 : -9223372036854775808 ≤ f.seq
  sq1 : f.seq ≤ 9223372036854775807
  body : BSs S w f.sp f.n f.cap f.bs
theorem OF.agree {S : Nat → Prop} {w w' : World} {f : Fr} (h : OF S w f) (ha : Agree S w w') : OF S w' f := ⟨h.ch0, h.ch1, h.sq0, h.sq1, h.body.agree ha⟩
theorem OF.mono {S T : Nat → Prop} {w : World} {f : Fr} (h : OF S w f) (hST : ∀ b, b < w.heap.size → S b → T b) : OF T w f := ⟨h.ch0, h.ch1, h.sq0, h.sq1, h.body.mono hST⟩
theorem OF.ok {S : Nat → Prop} {w : World} {f : Fr} (h : OF S w f) : FrOK w.heap.size w f := ⟨h.ch0, h.ch1, h.sq0, h.sq1, h.body.1⟩
theorem own_fs {w : World} {base n : Nat} {v : Value} {fs : List Fr} (h : w.ownsRow base 25 4 v n (flat4 fs)) (hn : n = fs.length) (hs : n ≤ 140737488355328) (hok : ∀ f ∈ fs, FrOK w.heap.size w f) :
    ∃ sp cap, v = .slice sp n cap ∧ FrS w.heap.size w sp n cap fs ∧ (∀ g off, sp = some ⟨g, off, none⟩ → base ≤ g ∧ v.ownBlock = some g) := by
  obtain ⟨hl, h | ⟨g, cap, cur, rfl, hg, hh, hnc, hm, hc, ht⟩⟩ := h
  · obtain ⟨rfl, rfl⟩ := h
    exact ⟨none, 0, rfl, ⟨hn, fun _ => ⟨rfl, rfl⟩, by omega, by omega, by omega, fun h0 => by omega, hok⟩, fun g off e => by cases e⟩
  · have hcell : ∀ t, t < n * 4 → w.cell? ⟨g, t, none⟩ = (flat4 fs)[t]? := fun t htl => by
      rw [cell_of_row w g t cur 25 (0, 0) hh, ← Array.getElem?_toList, ← List.getElem?_take_of_lt htl, ht]
    refine ⟨_, cap, rfl, ⟨hn, (fun e => by cases e), hnc, by unfold maxLen at hm; omega, hs, fun h0 => ⟨g, 0, rfl, (Array.getElem?_eq_some_iff.1 hh).1, fun i f hf => ?_⟩, hok⟩, fun g' off e => by cases e; exact ⟨hg, rfl⟩⟩
    obtain ⟨h1, h2, h3, h4⟩ := flat4_get i f hf
    have hi := (List.getElem?_eq_some_iff.1 hf).1
    rw [Nat.zero_add]
    exact ⟨(hcell _ (by omega)).trans h1, (hcell _ (by omega)).trans h2, (hcell _ (by omega)).trans h3, (hcell _ (by omega)).trans h4⟩
theorem info25F : (Try.prog.info? 25).map (fun i => (i.zero, i.size, i.bytes)) = some (some (.agg #[.int .u64 0, .int .i64 0, .bool false, .slice none 0 0]), 4, 48) := by kernel_rfl
/-- append of one frame onto a slice of the call's own. -/
theorem append_frame {ops : Array Oper} {rest : List Oper} {o : Oper} {a : Act} {w : World} {Q : Exit → Act → World → Prop} (hgd : Region.wanted o (yielded ops a.tmps) = true) (s x : Operand)
    (ho : o.op = .call { callee := .builtin .append, args := #[s, x], argTypes := #[39, 39] })
    (base : Nat) (v : Value) (m : Nat) (fs : List Fr) (hs : a.eval s = v) (hown : w.ownsRow base 25 4 v m (flat4 fs))
    (g c : Nat) (f : Fr) (hx : a.eval x = .slice (some ⟨g, 0, none⟩) 1 c) (hA : Arr w g 25 #[.int .u64 f.ch, .int .i64 f.seq, .bool f.last, .slice f.sp f.n f.cap]) (hb : m ≤ 1000000000) (hbase : base ≤ w.heap.size)
    (h : ∀ v' w', w'.ownsRow base 25 4 v' (m + 1) (flat4 (fs ++ [f])) → w.grownBy w' v.ownBlock → (v'.ownBlock = v.ownBlock ∨ v'.ownBlock = some w.heap.size) → wpList Try.prog ops Q rest (a.put o.dst v') w') : wpList Try.prog ops Q (o :: rest) a w := by
  obtain ⟨i0, hi, hz0, hz1, hz2⟩ := info_parts info25F
  refine wpList_want hgd fun K hK => ?_
  have hnews : ∀ j u, [Value.int .u64 f.ch, .int .i64 f.seq, .bool f.last, .slice f.sp f.n f.cap][j]? = some u → w.cell? ((⟨g, 0, none⟩ : Addr).add j) = some u := by
    intro j u hj
    rw [Addr.add_mid, Nat.zero_add, hA.cell]
    have hjl := (List.getElem?_eq_some_iff.1 hj).1
    simp at hjl
    match j, hjl with
    | 0, _ => simpa using hj
    | 1, _ => simpa using hj
    | 2, _ => simpa using hj
    | 3, _ => simpa using hj
  have h1 : ∀ u ∈ [Value.int .u64 f.ch, .int .i64 f.seq, .bool f.last, .slice f.sp f.n f.cap], u.oneCell' = true := by
    intro u hu; simp at hu; rcases hu with rfl | rfl | rfl | rfl <;> rfl
  obtain ⟨v', w', hr, h2, h3, -⟩ := run_append_own (P := Try.prog) w base 39 o.type 25 i0 _ 4 48 Try.underlying39 hi hz0 hz1 hz2 rfl (by omega) v m _ hown ⟨g, 0, none⟩ 1 c [.int .u64 f.ch, .int .i64 f.seq, .bool f.last, .slice f.sp f.n f.cap] rfl hnews h1 (by unfold maxLen; omega) (by omega) hbase
  have h4 := append_block (base := base) Try.underlying39 hi hz0 (by rw [hz1]; rfl) (by omega) (by rw [hz1]; exact hown) (by omega) (by rw [hz1]; rfl) hnews h1 (by unfold maxLen; omega) (by rw [hz2]; omega) hr
  unfold Oper.wp execOp
  simp only [ho, resolve, invoke, builtin, Sem.run_bind, Sem.run_pure, Result.andThen_ok, List.map_toArray, List.map_cons, List.map_nil, hs, hx, hr]
  exact hK _ _ (h v' w' (by rw [flat4_snoc]; exact h2) h3 h4)
end Go.Proofs.Ytbjlmekafnpllab
