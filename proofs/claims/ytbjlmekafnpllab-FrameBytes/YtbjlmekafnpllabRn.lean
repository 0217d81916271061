/- Layer rlp: items that were read, and the blocks that they lie in. -/
import Derived.Test.YtbjlmekafnpllabRm
namespace Go.Proofs.Ytbjlmekafnpllab
open Go.RowKit
set_option linter.unusedVariables false
set_option linter.unusedSimpArgs false

/-- Items as cells. -/
def flat3 (vs : List Value) : List Value := vs.flatMap fun v => v.cells.toList
theorem own_of_block {w w' : World} {base n e s : Nat} {v : Value} {xs : List Value} (h : w.ownsRow base e s v n xs) (hk : ∀ k, v.ownBlock = some k → w'.heap[k]? = w.heap[k]?) : w'.ownsRow base e s v n xs := by
  refine ⟨h.1, ?_⟩
  rcases h.2 with hn | ⟨g, cap, cur, rfl, hb0, hgg, rest⟩
  · exact .inl hn
  · exact .inr ⟨g, cap, cur, rfl, hb0, by rw [hk g rfl]; exact hgg, rest⟩
theorem own_at {w : World} {base n e s k m cap : Nat} {sp : Option Addr} {xs : List Value} (h : w.ownsRow base e s (.slice sp m cap) n xs) (hk : (Value.slice sp m cap).ownBlock = some k) : sp = some ⟨k, 0, none⟩ := by
  rcases h.2 with ⟨e1, -⟩ | ⟨g, c, cur, e1, -⟩
  · cases e1; cases hk
  · cases e1; cases hk; rfl
/-- Bytes in some blocks, in a row of their own. -/
def BSs (S : Nat → Prop) (w : World) (sp : Option Addr) (n cap : Nat) (L : List Int) : Prop := BS w.heap.size w sp n cap L ∧ w.ownsRow 0 5 1 (.slice sp n cap) n (by8 L) ∧ ∀ b off, sp = some ⟨b, off, none⟩ → S b
def ISs (S : Nat → Prop) (w : World) (sp : Option Addr) (n cap : Nat) (vs : List Value) : Prop := IS w.heap.size w sp n cap vs ∧ w.ownsRow 0 59 3 (.slice sp n cap) n (flat3 vs) ∧ ∀ b off, sp = some ⟨b, off, none⟩ → S b
/-- On some blocks two worlds are the same, and none is gone. -/
def Agree (S : Nat → Prop) (w w' : World) : Prop := w.heap.size ≤ w'.heap.size ∧ ∀ b, b < w.heap.size → S b → w'.heap[b]? = w.heap[b]?
theorem Agree.below {S : Nat → Prop} {w w' : World} {N : Nat} (h : Below N w w') (hS : ∀ b, b < w.heap.size → S b → b < N) : Agree S w w' := ⟨h.size, fun b hb hs => h.block b (hS b hb hs)⟩
theorem Agree.grown {S : Nat → Prop} {w w' : World} {row : Option Nat} (h : w.grownBy w' row) (hS : ∀ b, S b → some b ≠ row) : Agree S w w' := ⟨h.size, fun b hb hs => h.block b hb (hS b hs)⟩
theorem BSs.agree {S : Nat → Prop} {w w' : World} {sp : Option Addr} {n cap : Nat} {L : List Int} (h : BSs S w sp n cap L) (ha : Agree S w w') : BSs S w' sp n cap L := by
  obtain ⟨hB, hO, hS⟩ := h
  refine ⟨⟨hB.len, hB.nil, hB.le, hB.big, hB.small, fun h0 => ?_, hB.bts⟩, own_of_block hO fun k hk => ha.2 k (hO.lt k hk).2 (hS k 0 (own_at hO hk)), hS⟩
  obtain ⟨b, off, e, hb, hy⟩ := hB.at0 h0
  refine ⟨b, off, e, by have := ha.1; omega, fun t ht => ?_⟩
  rw [World.cell?_of_block (w := w) (ha.2 b hb (hS b off e))]; exact hy t ht
theorem ISs.agree {S : Nat → Prop} {w w' : World} {sp : Option Addr} {n cap : Nat} {L : List Value} (h : ISs S w sp n cap L) (ha : Agree S w w') : ISs S w' sp n cap L := by
  obtain ⟨hB, hO, hS⟩ := h
  refine ⟨⟨hB.len, hB.nil, hB.le, hB.big, hB.small, fun h0 => ?_⟩, own_of_block hO fun k hk => ha.2 k (hO.lt k hk).2 (hS k 0 (own_at hO hk)), hS⟩
  obtain ⟨g, off, e, hb, hy⟩ := hB.at0 h0
  refine ⟨g, off, e, by have := ha.1; omega, fun i v hv => ?_⟩
  obtain ⟨a, b, c, e1, h1, h2, h3⟩ := hy i v hv
  have hk := ha.2 g hb (hS g off e)
  refine ⟨a, b, c, e1, ?_, ?_, ?_⟩
  · rw [World.cell?_of_block (w := w) hk]; exact h1
  · rw [World.cell?_of_block (w := w) hk]; exact h2
  · rw [World.cell?_of_block (w := w) hk]; exact h3
theorem BSs.mono {S T : Nat → Prop} {w : World} {sp : Option Addr} {n cap : Nat} {L : List Int} (h : BSs S w sp n cap L) (hST : ∀ b, b < w.heap.size → S b → T b) : BSs T w sp n cap L :=
  ⟨h.1, h.2.1, fun b off e => by subst e; exact hST b (h.2.1.lt b rfl).2 (h.2.2 b off rfl)⟩
theorem ISs.mono {S T : Nat → Prop} {w : World} {sp : Option Addr} {n cap : Nat} {L : List Value} (h : ISs S w sp n cap L) (hST : ∀ b, b < w.heap.size → S b → T b) : ISs T w sp n cap L :=
  ⟨h.1, h.2.1, fun b off e => by subst e; exact hST b (h.2.1.lt b rfl).2 (h.2.2 b off rfl)⟩

/-- An item that was read, in some blocks: its form. -/
def Dec (S : Nat → Prop) (w : World) : Nat → Value → List Int → Prop
  | 0, v, F => ∃ sp n cap bs, v = .agg #[.bool false, .slice sp n cap, .slice none 0 0] ∧ BSs S w sp n cap bs ∧ F = wrap false bs
  | d + 1, v, F => (∃ sp n cap bs, v = .agg #[.bool false, .slice sp n cap, .slice none 0 0] ∧ BSs S w sp n cap bs ∧ F = wrap false bs) ∨
      ∃ sq k cq vs, ∃ Fs : List (List Int), v = .agg #[.bool true, .slice none 0 0, .slice sq k cq] ∧ ISs S w sq k cq vs ∧ Fs.length = vs.length ∧ (∀ (i : Nat) v F, vs[i]? = some v → Fs[i]? = some F → Dec S w d v F) ∧ F = wrap true Fs.flatten
theorem Dec.bytes {S : Nat → Prop} {w : World} (d : Nat) {v : Value} {F : List Int} (h : ∃ sp n cap bs, v = .agg #[.bool false, .slice sp n cap, .slice none 0 0] ∧ BSs S w sp n cap bs ∧ F = wrap false bs) : Dec S w d v F := by
  cases d with
  | zero => exact h
  | succ d => exact .inl h
theorem Dec.agree {S : Nat → Prop} {w w' : World} (ha : Agree S w w') : ∀ {d : Nat} {v : Value} {F : List Int}, Dec S w d v F → Dec S w' d v F
  | 0, v, F, h => by
    obtain ⟨sp, n, cap, bs, e, hb, hF⟩ := h
    exact ⟨sp, n, cap, bs, e, hb.agree ha, hF⟩
  | d + 1, v, F, h => by
    rcases h with ⟨sp, n, cap, bs, e, hb, hF⟩ | ⟨sq, k, cq, vs, Fs, e, hi, hl, hd, hF⟩
    · exact .inl ⟨sp, n, cap, bs, e, hb.agree ha, hF⟩
    · exact .inr ⟨sq, k, cq, vs, Fs, e, hi.agree ha, hl, fun i v F hv hF => (hd i v F hv hF).agree ha, hF⟩
theorem Dec.mono {S T : Nat → Prop} {w : World} (hST : ∀ b, b < w.heap.size → S b → T b) : ∀ {d : Nat} {v : Value} {F : List Int}, Dec S w d v F → Dec T w d v F
  | 0, v, F, h => by
    obtain ⟨sp, n, cap, bs, e, hb, hF⟩ := h
    exact ⟨sp, n, cap, bs, e, hb.mono hST, hF⟩
  | d + 1, v, F, h => by
    rcases h with ⟨sp, n, cap, bs, e, hb, hF⟩ | ⟨sq, k, cq, vs, Fs, e, hi, hl, hd, hF⟩
    · exact .inl ⟨sp, n, cap, bs, e, hb.mono hST, hF⟩
    · exact .inr ⟨sq, k, cq, vs, Fs, e, hi.mono hST, hl, fun i v F hv hF => (hd i v F hv hF).mono hST, hF⟩
theorem BS.nil0 (N : Nat) (w : World) : BS N w none 0 0 [] := ⟨rfl, fun _ => ⟨rfl, rfl⟩, Nat.le_refl _, by omega, by omega, fun h => by omega, Bts.nil⟩
theorem IS.nil0 (N : Nat) (w : World) : IS N w none 0 0 [] := ⟨rfl, fun _ => ⟨rfl, rfl⟩, Nat.le_refl _, by omega, by omega, fun h => by omega⟩
theorem Dec.is {S : Nat → Prop} {w : World} : ∀ {d : Nat} {v : Value} {F : List Int}, Dec S w d v F → Is w.heap.size w d v (some F)
  | 0, v, F, h => by
    obtain ⟨sp, n, cap, bs, e, hb, rfl⟩ := h
    exact ⟨false, sp, n, cap, bs, none, 0, 0, [], ⟨e, hb.1, IS.nil0 _ _⟩, .inl ⟨rfl, rfl⟩⟩
  | d + 1, v, F, h => by
    rcases h with ⟨sp, n, cap, bs, e, hb, rfl⟩ | ⟨sq, k, cq, vs, Fs, e, hi, hl, hd, rfl⟩
    · exact ⟨false, sp, n, cap, bs, none, 0, 0, [], ⟨e, hb.1, IS.nil0 _ _⟩, .inl ⟨rfl, rfl⟩⟩
    · refine ⟨true, none, 0, 0, [], sq, k, cq, vs, ⟨e, BS.nil0 _ _, hi.1⟩, .inr (.inr ⟨rfl, rfl, Fs.map some, by simpa using hl, fun i v o hv ho => ?_, by rw [cat_map]; rfl⟩)⟩
      rw [List.getElem?_map] at ho
      obtain ⟨F, hF, rfl⟩ := Option.map_eq_some_iff.1 ho
      exact (hd i v F hv hF).is
/-- An item's three cells. -/
theorem Dec.sh {S : Nat → Prop} {w : World} {d : Nat} {v : Value} {F : List Int} (h : Dec S w d v F) : ∃ l sp n cap sq k cq, v = .agg #[.bool l, .slice sp n cap, .slice sq k cq] := by
  cases d with
  | zero => obtain ⟨sp, n, cap, bs, e, -⟩ := h; exact ⟨_, _, _, _, _, _, _, e⟩
  | succ d =>
    rcases h with ⟨sp, n, cap, bs, e, -⟩ | ⟨sq, k, cq, vs, Fs, e, -⟩
    · exact ⟨_, _, _, _, _, _, _, e⟩
    · exact ⟨_, _, _, _, _, _, _, e⟩

/-- Each has three cells. -/
def Three (vs : List Value) : Prop := ∀ v ∈ vs, ∃ l sp n cap sq k cq, v = .agg #[.bool l, .slice sp n cap, .slice sq k cq]
theorem flat3_get : ∀ {vs : List Value}, Three vs → ∀ (i : Nat) (v : Value), vs[i]? = some v → ∃ a b c, v = .agg #[a, b, c] ∧ (flat3 vs)[3 * i]? = some a ∧ (flat3 vs)[3 * i + 1]? = some b ∧ (flat3 vs)[3 * i + 2]? = some c
  | [], _, i, v, h => by simp at h
  | x :: vs, h3, 0, v, h => by
    obtain ⟨l, sp, n, cap, sq, k, cq, e⟩ := h3 x (by simp)
    simp at h; subst h
    refine ⟨_, _, _, e, ?_⟩
    simp [flat3, e, Value.cells]
  | x :: vs, h3, i + 1, v, h => by
    obtain ⟨l, sp, n, cap, sq, k, cq, e⟩ := h3 x (by simp)
    obtain ⟨a, b, c, e1, h1, h2, h4⟩ := flat3_get (vs := vs) (fun v hv => h3 v (by simp [hv])) i v (by simpa using h)
    refine ⟨a, b, c, e1, ?_⟩
    have hf : flat3 (x :: vs) = [.bool l, .slice sp n cap, .slice sq k cq] ++ flat3 vs := by simp [flat3, e, Value.cells]
    rw [hf]
    refine ⟨?_, ?_, ?_⟩
    · rw [List.getElem?_append_right (by simp; omega), ← h1]; congr 1
    · rw [List.getElem?_append_right (by simp; omega), ← h2]; congr 1
    · rw [List.getElem?_append_right (by simp; omega), ← h4]; congr 1
theorem own_is {w : World} {base n : Nat} {v : Value} {vs : List Value} (h : w.ownsRow base 59 3 v n (flat3 vs)) (h3 : Three vs) (hn : n = vs.length) (hs : n ≤ 140737488355328) :
    ∃ sp cap, v = .slice sp n cap ∧ IS w.heap.size w sp n cap vs ∧ (∀ g off, sp = some ⟨g, off, none⟩ → base ≤ g ∧ v.ownBlock = some g) := by
  obtain ⟨hl, h | ⟨g, cap, cur, rfl, hg, hh, hnc, hm, hc, ht⟩⟩ := h
  · obtain ⟨rfl, rfl⟩ := h
    exact ⟨none, 0, rfl, ⟨hn, fun _ => ⟨rfl, rfl⟩, by omega, by omega, by omega, fun h0 => by omega⟩, fun g off e => by cases e⟩
  · have hcell : ∀ t, t < n * 3 → w.cell? ⟨g, t, none⟩ = (flat3 vs)[t]? := fun t htl => by
      rw [cell_of_row w g t cur 59 (0, 0) hh, ← Array.getElem?_toList, ← List.getElem?_take_of_lt htl, ht]
    refine ⟨_, cap, rfl, ⟨hn, (fun e => by cases e), hnc, by unfold maxLen at hm; omega, hs, fun h0 => ⟨g, 0, rfl, (Array.getElem?_eq_some_iff.1 hh).1, fun i v hv => ?_⟩⟩, fun g' off e => by cases e; exact ⟨hg, rfl⟩⟩
    obtain ⟨a, b, c, e1, h1, h2, h4⟩ := flat3_get h3 i v hv
    have hi := (List.getElem?_eq_some_iff.1 hv).1
    refine ⟨a, b, c, e1, ?_, ?_, ?_⟩
    · rw [Nat.zero_add, hcell _ (by omega)]; exact h1
    · rw [Nat.zero_add, hcell _ (by omega)]; exact h2
    · rw [Nat.zero_add, hcell _ (by omega)]; exact h4

theorem info25 : (Try.prog.info? 59).map (fun i => (i.zero, i.size, i.bytes)) = some (some (.agg #[.bool false, .slice none 0 0, .slice none 0 0]), 3, 56) := by kernel_rfl
theorem size25 : (Try.prog.info? 59).map (·.size) = some 3 := by kernel_rfl
theorem flat3_snoc (vs : List Value) (l : Bool) (sp : Option Addr) (n cap : Nat) (sq : Option Addr) (k cq : Nat) : flat3 (vs ++ [.agg #[.bool l, .slice sp n cap, .slice sq k cq]]) = flat3 vs ++ [.bool l, .slice sp n cap, .slice sq k cq] := by
  simp [flat3, Value.cells]
/-- Where what append answers lies. -/
theorem append_block {P : Program} {w : World} {base t ty e : Nat} {i : TypeInfo} {z : Value} (ht : P.underlying t = some (.slice e)) (hi : P.info? e = some i) (hz : i.zero = some z) (hzs : z.cells.size = i.size) (hsz : 0 < i.size)
    {v : Value} {n : Nat} {xs : List Value} (hown : w.ownsRow base e i.size v n xs) {a : Addr} {m c : Nat} {news : List Value} (hm : 0 < m) (hl : news.length = m * i.size) (hnews : ∀ j u, news[j]? = some u → w.cell? (a.add j) = some u) (h1 : ∀ u ∈ news, u.oneCell' = true)
    (h63 : n + m ≤ maxLen) (hbytes : (n + m) * i.bytes ≤ 140737488355328) {v' : Value} {w' : World} (hr : (Builtin.append_ #[t, t] ty #[v, .slice (some a) m c]).run P w = .ok v' w') : v'.ownBlock = v.ownBlock ∨ v'.ownBlock = some w.heap.size := by
  have hsmall : n + m ≤ 9223372036854775807 := by simp only [maxLen] at h63; omega
  rcases hown.2 with ⟨rfl, rfl⟩ | ⟨g, cap, cur, rfl, hbg, hg, hnc, hcm, hcs, htake⟩
  · have h := run_append_nil (P := P) w t ty e i z ht hi hz a m c news hl hnews (by omega) (by omega) (by have hb := hbytes; simp only [Nat.zero_add] at hb; omega)
    rw [h] at hr
    cases hr
    exact .inr rfl
  · by_cases hroom : n + m ≤ cap
    · have hfit : n * i.size + news.length ≤ cur.size := by rw [hl, hcs, ← Nat.add_mul]; exact Nat.mul_le_mul_right _ hroom
      have h := run_append_room (P := P) w t ty e i ht hi g n cap cur hg a m c news hl hnews h1 hroom hfit
      rw [h] at hr
      cases hr
      exact .inl rfl
    · have holds : ∀ j u, xs[j]? = some u → w.cell? ((⟨g, 0, none⟩ : Addr).add j) = some u := hown.cells (g := g) rfl
      have h := run_append_grow (P := P) w t ty e i z ht hi hz ⟨g, 0, none⟩ n cap xs hown.1 holds a m c news hl hnews (by omega) (by omega) (growslice_fits (by omega) hbytes)
      rw [h] at hr
      cases hr
      exact .inr rfl
/-- append of one item onto a slice of the call's own. -/
theorem append_item {ops : Array Oper} {rest : List Oper} {o : Oper} {a : Act} {w : World} {Q : Exit → Act → World → Prop} (hgd : Region.wanted o (yielded ops a.tmps) = true) (s x : Operand)
    (ho : o.op = .call { callee := .builtin .append, args := #[s, x], argTypes := #[57, 57] })
    (base : Nat) (v : Value) (m : Nat) (vs : List Value) (hs : a.eval s = v) (hown : w.ownsRow base 59 3 v m (flat3 vs))
    (g c : Nat) (l : Bool) (sp : Option Addr) (n cap : Nat) (sq : Option Addr) (k cq : Nat) (hx : a.eval x = .slice (some ⟨g, 0, none⟩) 1 c) (hA : Arr w g 59 #[.bool l, .slice sp n cap, .slice sq k cq]) (hb : m ≤ 1000000000) (hbase : base ≤ w.heap.size)
    (h : ∀ v' w', w'.ownsRow base 59 3 v' (m + 1) (flat3 (vs ++ [.agg #[.bool l, .slice sp n cap, .slice sq k cq]])) → w.grownBy w' v.ownBlock → (v'.ownBlock = v.ownBlock ∨ v'.ownBlock = some w.heap.size) → wpList Try.prog ops Q rest (a.put o.dst v') w') : wpList Try.prog ops Q (o :: rest) a w := by
  obtain ⟨i0, hi, hz0, hz1, hz2⟩ := info_parts info25
  refine wpList_want hgd fun K hK => ?_
  have hnews : ∀ j u, [Value.bool l, .slice sp n cap, .slice sq k cq][j]? = some u → w.cell? ((⟨g, 0, none⟩ : Addr).add j) = some u := by
    intro j u hj
    rw [Addr.add_mid, Nat.zero_add, hA.cell]
    have hjl := (List.getElem?_eq_some_iff.1 hj).1
    simp at hjl
    match j, hjl with
    | 0, _ => simpa using hj
    | 1, _ => simpa using hj
    | 2, _ => simpa using hj
  have h1 : ∀ u ∈ [Value.bool l, .slice sp n cap, .slice sq k cq], u.oneCell' = true := by
    intro u hu; simp at hu; rcases hu with rfl | rfl | rfl <;> rfl
  obtain ⟨v', w', hr, h2, h3, -⟩ := run_append_own (P := Try.prog) w base 57 o.type 59 i0 _ 3 56 Try.underlying57 hi hz0 hz1 hz2 rfl (by omega) v m _ hown ⟨g, 0, none⟩ 1 c [.bool l, .slice sp n cap, .slice sq k cq] rfl hnews h1 (by unfold maxLen; omega) (by omega) hbase
  have h4 := append_block (base := base) Try.underlying57 hi hz0 (by rw [hz1]; rfl) (by omega) (by rw [hz1]; exact hown) (by omega) (by rw [hz1]; rfl) hnews h1 (by unfold maxLen; omega) (by rw [hz2]; omega) hr
  unfold Oper.wp execOp
  simp only [ho, resolve, invoke, builtin, Sem.run_bind, Sem.run_pure, Result.andThen_ok, List.map_toArray, List.map_cons, List.map_nil, hs, hx, hr]
  exact hK _ _ (h v' w' (by rw [flat3_snoc]; exact h2) h3 h4)
end Go.Proofs.Ytbjlmekafnpllab
