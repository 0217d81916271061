/- Layer rlp: items that came in. -/
import Derived.Test.YtbggpiigekakaaaRw
import Derived.Test.YtbggpiigekakaaaRn
namespace Go.Proofs.Ytbggpiigekakaaa
open Go.ChangeShapes Go.WideShapes Go.ChangeAt Go.RowKit
set_option linter.unusedVariables false
set_option linter.unusedSimpArgs false

theorem exists_list {α : Type} {P : Nat → α → Prop} : ∀ (n : Nat), (∀ i, i < n → ∃ a, P i a) → ∃ l : List α, l.length = n ∧ ∀ i a, l[i]? = some a → P i a
  | 0, _ => ⟨[], rfl, fun i a h => by simp at h⟩
  | n + 1, h => by
    obtain ⟨l, hl, hP⟩ := exists_list n (fun i hi => h i (by omega))
    obtain ⟨a, ha⟩ := h n (by omega)
    refine ⟨l ++ [a], by simp [hl], fun i b hb => ?_⟩
    by_cases hi : i < n
    · rw [List.getElem?_append_left (by omega)] at hb; exact hP i b hb
    · rw [List.getElem?_append_right (by omega)] at hb
      have : i - l.length = 0 := by have := (List.getElem?_eq_some_iff.1 hb).1; simp at this; omega
      rw [this] at hb
      simp at hb
      subst hb
      obtain rfl : i = n := by omega
      exact ha
theorem weights_all {H : Type} {P : Program} {e : TypeId} {l : List (DataW H)} {d : DataW H} (hd : d ∈ l) : ∀ n ∈ d.weights P e, n ∈ DataW.weightsAll P e l := by
  induction l with
  | nil => simp at hd
  | cons x r ih =>
    intro n hn
    rw [DataW.weightsAll]
    rcases List.mem_cons.1 hd with rfl | h
    · exact List.mem_append_left _ hn
    · exact List.mem_append_right _ (ih h n hn)
/-- Nothing in it is greater than the reach. -/
def Small {H : Type} (t : TypeId) (d : DataW H) : Prop := ∀ n ∈ d.weights Try.prog t, n ≤ reachBytes
theorem cells4 : Try.prog.cellsOf 4 = 1 := by kernel_rfl
theorem cells22 : Try.prog.cellsOf 22 = 1 := by kernel_rfl
theorem cells23 : Try.prog.cellsOf 23 = 1 := by kernel_rfl
theorem cells25 : Try.prog.cellsOf 25 = 3 := by kernel_rfl
theorem bytes25 : Try.prog.bytesOf 25 = 56 := by kernel_rfl

section
variable {H : Type} {enc : TypeId × Value → H} {W : World} {base : Nat}

theorem bs_of_trod {fuel : Nat} {cs : List Value} {x : DataW H × List MemPlace} (h : DataW.trod enc Try.prog W base (fun _ => true) true fuel 22 cs = some x) (hs : Small 22 x.1) :
    ∃ sp n cap L, cs = [.slice sp n cap] ∧ BS W.heap.size W sp n cap L := by
  rcases open_ints Try.underlying22 Try.underlying5 (by kernel_rfl) h with ⟨rfl, _⟩ | ⟨a, len, cap, zs, rfl, _, hl, hm, hz, rfl, hcell, hwz⟩
  · exact ⟨none, 0, 0, [], rfl, BS.nil0 _ _⟩
  · have hz' : zs.length = cap := by simpa using hz
    have hr := hs ((zs.take len).length + (zs.drop len).length) (by simp [DataW.weights, Try.underlying22, bytes5, lits])
    simp only [List.length_take, List.length_drop, reachBytes] at hr
    refine ⟨some a, len, cap, zs.take len, rfl, ⟨show _ = _ by simp; omega, (fun e => by cases e), hl, by unfold maxLen at hm; omega, by omega, fun h0 => ?_, bts_wf fun y hy => hwz y (List.mem_of_mem_take hy)⟩⟩
    obtain ⟨b, off, rfl, hc⟩ := ints_at hcell (by omega)
    refine ⟨b, off, rfl, block_lt_of_cell (hc 0 (by omega)), fun t ht => ?_⟩
    rw [hc t (by omega)]
    simp [bat, List.getElem?_take_of_lt ht]

/-- The three cells of an item at an address. -/
theorem three_at {a : Addr} {cs : List Value} (h : W.cells? base a 3 = some cs) : ∃ b off x y z, a = ⟨b, off, none⟩ ∧ cs = [x, y, z] ∧ W.cell? ⟨b, off, none⟩ = some x ∧ W.cell? ⟨b, off + 1, none⟩ = some y ∧ W.cell? ⟨b, off + 2, none⟩ = some z := by
  unfold World.cells? at h
  split at h
  · have hr : List.range 3 = [0, 1, 2] := rfl
    rw [hr] at h
    cases hx : W.cell? (a.add 0) with
    | none => simp [hx] at h
    | some x =>
      cases hy : W.cell? (a.add 1) with
      | none => simp [hx, hy] at h
      | some y =>
        cases hz : W.cell? (a.add 2) with
        | none => simp [hx, hy, hz] at h
        | some z =>
          simp [hx, hy, hz] at h
          obtain ⟨b, off, spot⟩ := a
          have hspot : spot = none := by simpa [Addr.add] using World.cell?_spot hx
          subst hspot
          rw [Addr.add_mid] at hx hy hz
          exact ⟨b, off, x, y, z, rfl, h.symm, hx, hy, hz⟩
  · cases h

theorem list_of_trod {Q : Value → Option (List Int) → Prop} (hQ : ∀ (fuel : Nat) (cs : List Value) (x : DataW H × List MemPlace) (a b c : Value), cs = [a, b, c] → DataW.trod enc Try.prog W base (fun _ => true) true fuel 25 cs = some x → Small 25 x.1 → ∃ o, Q (.agg #[a, b, c]) o)
    {fuel : Nat} {cs : List Value} {x : DataW H × List MemPlace} (h : DataW.trod enc Try.prog W base (fun _ => true) true fuel 23 cs = some x) (hs : Small 23 x.1) :
    ∃ sq k cq vs, ∃ os : List (Option (List Int)), cs = [.slice sq k cq] ∧ IS W.heap.size W sq k cq vs ∧ os.length = vs.length ∧ ∀ (i : Nat) v o, vs[i]? = some v → os[i]? = some o → Q v o := by
  rcases DataW.trod_slice Try.underlying23 h with ⟨rfl, -⟩ | ⟨a, len, cap, elems, rest, n, rfl, rfl, rfl, hb, hlc, hm, hlen, hel, hsp, -⟩
  · exact ⟨none, 0, 0, [], [], rfl, IS.nil0 _ _, rfl, fun i v o hv => by simp at hv⟩
  · obtain ⟨hrl, -⟩ := hsp rfl
    have hr := hs ((elems.length + rest.length) * 56) (by simp [DataW.weights, Try.underlying23, bytes25])
    simp only [reachBytes] at hr
    have hw : ∀ e ∈ elems, Small 25 e.1 := fun e he m hm => hs m (by
      simp only [DataW.weights, Try.underlying23]
      exact List.mem_cons_of_mem _ (List.mem_append_left _ (weights_all (List.mem_map_of_mem he) m hm)))
    have hstep : ∀ i, i < len → ∃ g off x y z o, a.add (i * 3) = ⟨g, off, none⟩ ∧ W.cell? ⟨g, off, none⟩ = some x ∧ W.cell? ⟨g, off + 1, none⟩ = some y ∧ W.cell? ⟨g, off + 2, none⟩ = some z ∧ Q (.agg #[x, y, z]) o := fun i hi => by
      have h1 := hel i hi
      rw [cells25, List.getElem?_eq_getElem (by omega), Option.bind_eq_some_iff] at h1
      obtain ⟨cs, hcs, ht⟩ := h1
      obtain ⟨g, off, x, y, z, e, hc, h0, h2, h3⟩ := three_at hcs
      obtain ⟨o, ho⟩ := hQ n cs _ x y z hc ht (hw _ (List.getElem_mem _))
      exact ⟨g, off, x, y, z, o, e, h0, h2, h3, ho⟩
    by_cases h0 : 0 < len
    · obtain ⟨g, off, -, -, -, -, e, -⟩ := hstep 0 h0
      have ha : a = ⟨g, off, none⟩ := by simpa [Addr.add] using e
      subst ha
      obtain ⟨l, hl, hP⟩ := exists_list (P := fun i (p : Value × Option (List Int)) => (∃ x y z, p.1 = .agg #[x, y, z] ∧ W.cell? ⟨g, off + 3 * i, none⟩ = some x ∧ W.cell? ⟨g, off + 3 * i + 1, none⟩ = some y ∧ W.cell? ⟨g, off + 3 * i + 2, none⟩ = some z) ∧ Q p.1 p.2) len (fun i hi => by
        obtain ⟨g', off', x, y, z, o, e', h1, h2, h3, ho⟩ := hstep i hi
        rw [Addr.add_mid, Nat.mul_comm] at e'
        cases e'
        exact ⟨(.agg #[x, y, z], o), ⟨x, y, z, rfl, h1, h2, h3⟩, ho⟩)
      refine ⟨some ⟨g, off, none⟩, len, cap, l.map (·.1), l.map (·.2), rfl, ⟨show _ = _ by simp [hl], (fun e => by cases e), hlc, by unfold maxLen at hm; omega, by omega, fun _ => ⟨g, off, rfl, ?_, fun i v hv => ?_⟩⟩, by simp, fun i v o hv ho => ?_⟩
      · obtain ⟨p, hp⟩ : ∃ p, l[0]? = some p := ⟨l[0], List.getElem?_eq_getElem (by omega)⟩
        obtain ⟨⟨x, y, z, -, h1, -⟩, -⟩ := hP 0 p hp
        exact block_lt_of_cell h1
      · rw [List.getElem?_map] at hv
        obtain ⟨p, hp, rfl⟩ := Option.map_eq_some_iff.1 hv
        exact (hP i p hp).1
      · rw [List.getElem?_map] at hv ho
        obtain ⟨p, hp, rfl⟩ := Option.map_eq_some_iff.1 hv
        rw [hp] at ho
        simp at ho
        subst ho
        exact (hP i p hp).2
    · obtain rfl : len = 0 := by omega
      exact ⟨some a, 0, cap, [], [], rfl, ⟨rfl, (fun e => by cases e), by omega, by unfold maxLen at hm; omega, by omega, fun h => by omega⟩, rfl, fun i v o hv => by simp at hv⟩

theorem is_of_trod : ∀ (d fuel : Nat) (cs : List Value) (x : DataW H × List MemPlace), DataW.trod enc Try.prog W base (fun _ => true) true fuel 25 cs = some x → Small 25 x.1 →
    ∃ l sp n cap sq k cq o, cs = [.bool l, .slice sp n cap, .slice sq k cq] ∧ Is W.heap.size W d (.agg #[.bool l, .slice sp n cap, .slice sq k cq]) o := by
  intro d
  induction d with
  | zero =>
    intro fuel cs x h hs
    obtain ⟨xs, n, rfl, rfl, hl, hxl, hf⟩ := DataW.trod_struct Try.underlying25 h
    rw [cells25] at hl
    simp at hxl
    match cs, hl with
    | [c0, c1, c2], _ =>
    match xs, hxl with
    | [x0, x1, x2], _ =>
    have f0 := hf 0 _ rfl
    have f1 := hf 1 _ rfl
    have f2 := hf 2 _ rfl
    simp [cells4, cells22, cells23] at f0 f1 f2
    have s1 : Small 22 x1.1 := fun m hm => hs m (by simp [DataW.weights, Try.underlying25, DataW.weightsEach, hm])
    have s2 : Small 23 x2.1 := fun m hm => hs m (by simp [DataW.weights, Try.underlying25, DataW.weightsEach, hm])
    obtain ⟨l, e0, -⟩ := DataW.trod_bool Try.underlying4 f0
    obtain ⟨sp, m, cap, L, e1, hB⟩ := bs_of_trod f1 s1
    obtain ⟨sq, k, cq, vs, os, e2, hI, ho, hq⟩ := list_of_trod (Q := fun _ _ => True) (fun _ _ _ _ _ _ _ _ _ => ⟨none, trivial⟩) f2 s2
    cases e0; cases e1; cases e2
    cases l with
    | true => exact ⟨true, sp, m, cap, sq, k, cq, none, rfl, true, sp, m, cap, L, sq, k, cq, vs, ⟨rfl, hB, hI⟩, .inr ⟨rfl, rfl⟩⟩
    | false => exact ⟨false, sp, m, cap, sq, k, cq, _, rfl, false, sp, m, cap, L, sq, k, cq, vs, ⟨rfl, hB, hI⟩, .inl ⟨rfl, rfl⟩⟩
  | succ d ih =>
    intro fuel cs x h hs
    obtain ⟨xs, n, rfl, rfl, hl, hxl, hf⟩ := DataW.trod_struct Try.underlying25 h
    rw [cells25] at hl
    simp at hxl
    match cs, hl with
    | [c0, c1, c2], _ =>
    match xs, hxl with
    | [x0, x1, x2], _ =>
    have f0 := hf 0 _ rfl
    have f1 := hf 1 _ rfl
    have f2 := hf 2 _ rfl
    simp [cells4, cells22, cells23] at f0 f1 f2
    have s1 : Small 22 x1.1 := fun m hm => hs m (by simp [DataW.weights, Try.underlying25, DataW.weightsEach, hm])
    have s2 : Small 23 x2.1 := fun m hm => hs m (by simp [DataW.weights, Try.underlying25, DataW.weightsEach, hm])
    obtain ⟨l, e0, -⟩ := DataW.trod_bool Try.underlying4 f0
    obtain ⟨sp, m, cap, L, e1, hB⟩ := bs_of_trod f1 s1
    obtain ⟨sq, k, cq, vs, os, e2, hI, ho, hq⟩ := list_of_trod (Q := fun v o => Is W.heap.size W d v o) (fun fuel cs x a b c hc ht hsm => by
      obtain ⟨l, sp, n, cap, sq, k, cq, o, e, hi⟩ := ih fuel cs x ht hsm
      rw [hc] at e
      cases e
      exact ⟨o, hi⟩) f2 s2
    cases e0; cases e1; cases e2
    cases l with
    | true =>
      by_cases hm : 0 < m
      · exact ⟨true, sp, m, cap, sq, k, cq, none, rfl, true, sp, m, cap, L, sq, k, cq, vs, ⟨rfl, hB, hI⟩, .inr (.inl ⟨rfl, hm, rfl⟩)⟩
      · obtain rfl : m = 0 := by omega
        exact ⟨true, sp, 0, cap, sq, k, cq, _, rfl, true, sp, 0, cap, L, sq, k, cq, vs, ⟨rfl, hB, hI⟩, .inr (.inr ⟨rfl, rfl, os, ho, hq, rfl⟩)⟩
    | false => exact ⟨false, sp, m, cap, sq, k, cq, _, rfl, false, sp, m, cap, L, sq, k, cq, vs, ⟨rfl, hB, hI⟩, .inl ⟨rfl, rfl⟩⟩

/-- AN ITEM THAT CAME IN. -/
theorem open_item {b0 : Nat} {v : Value} {d : DataW H} {p : List MemPlace} {ts : List TypeId} {ds : List (DataW H)} {j : Nat}
    (hv : Value.okWide Try.prog W .any b0 25 v) (h : DataW.Trod enc Try.prog W base (fun _ => true) true 25 v d p)
    (hsz : (DataW.weightsEach Try.prog ts ds).all (· ≤ reachBytes) = true) (ht : ts[j]? = some 25) (hd : ds[j]? = some d) :
    ∃ l sp n cap sq k cq o, v = .agg #[.bool l, .slice sp n cap, .slice sq k cq] ∧ Is W.heap.size W 16 v o := by
  unfold Value.okWide at hv
  rw [Try.underlying25] at hv
  obtain ⟨cs, rfl, hc, -⟩ := hv
  obtain ⟨fuel, hf⟩ := h
  have hs : Small 25 d := fun n hn => by
    have := List.all_eq_true.1 hsz n (DataW.weights_mem_each ht hd n hn)
    simpa using this
  obtain ⟨l, sp, n, cap, sq, k, cq, o, e, hi⟩ := is_of_trod 16 fuel _ (d, p) hf hs
  have e' : cs = #[.bool l, .slice sp n cap, .slice sq k cq] := by
    apply Array.toList_inj.1; simpa [Value.cells] using e
  subst e'
  exact ⟨l, sp, n, cap, sq, k, cq, o, rfl, hi⟩
end
end Go.Proofs.Ytbggpiigekakaaa
