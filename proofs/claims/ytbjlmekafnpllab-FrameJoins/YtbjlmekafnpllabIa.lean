/- Layer frame: frames that came in. -/
import Derived.Test.YtbjlmekafnpllabRw
import Derived.Test.YtbjlmekafnpllabRx
import Derived.Test.YtbjlmekafnpllabFd
namespace Go.Proofs.Ytbjlmekafnpllab
open Go.ChangeShapes Go.WideShapes Go.ChangeAt Go.RowKit
set_option linter.unusedVariables false
set_option linter.unusedSimpArgs false

theorem exists_list {α : Type} {P : Nat → α → Prop} : ∀ (n : Nat), (∀ i, i < n → ∃ a, P i a) → ∃ l : List α, l.length = n ∧ ∀ i a, l[i]? = some a → P i a
  | 0, _ => ⟨[], rfl, fun i a h => by simp at h⟩
  | n + 1, h => by
    obtain ⟨l, hl, hP⟩ := exists_list n (fun i hi => h i (by omega))
    obtain ⟨a, ha⟩ := h n (by omega)
    refine ⟨l ++ [a], by simp [hl], fun i b hb => ?_⟩
    by_cases hi : i < n
    · rw [List.getElem?_append_left (by omega)] at hb; exact hP i b hb
    · rw [List.getElem?_append_right (by omega)] at hb
      have : i - l.length = 0 := by have := (List.getElem?_eq_some_iff.1 hb).1; simp at this; omega
      rw [this] at hb
      simp at hb
      subst hb
      obtain rfl : i = n := by omega
      exact ha
theorem weights_all {H : Type} {P : Program} {e : TypeId} {l : List (DataW H)} {d : DataW H} (hd : d ∈ l) : ∀ n ∈ d.weights P e, n ∈ DataW.weightsAll P e l := by
  induction l with
  | nil => simp at hd
  | cons x r ih =>
    intro n hn
    rw [DataW.weightsAll]
    rcases List.mem_cons.1 hd with rfl | h
    · exact List.mem_append_left _ hn
    · exact List.mem_append_right _ (ih h n hn)
/-- Nothing in it is greater than the reach. -/
def Small {H : Type} (t : TypeId) (d : DataW H) : Prop := ∀ n ∈ d.weights Try.prog t, n ≤ reachBytes
theorem cells3 : Try.prog.cellsOf 3 = 1 := by kernel_rfl
theorem cells4 : Try.prog.cellsOf 4 = 1 := by kernel_rfl
theorem cells22 : Try.prog.cellsOf 22 = 1 := by kernel_rfl
theorem cells23 : Try.prog.cellsOf 23 = 1 := by kernel_rfl
theorem cells25 : Try.prog.cellsOf 25 = 4 := by kernel_rfl
theorem bytes25 : Try.prog.bytesOf 25 = 48 := by kernel_rfl

section
variable {H : Type} {enc : TypeId × Value → H} {W : World} {base : Nat}

set_option maxRecDepth 100000 in
theorem bs_of_trod {fuel : Nat} {cs : List Value} {x : DataW H × List MemPlace} (h : DataW.trod enc Try.prog W base (fun _ => true) true fuel 23 cs = some x) (hs : Small 23 x.1) :
    ∃ sp n cap L, cs = [.slice sp n cap] ∧ BS W.heap.size W sp n cap L := by
  rcases open_ints Try.underlying23 Try.underlying5 (by kernel_rfl) h with ⟨rfl, _⟩ | ⟨a, len, cap, zs, rfl, _, hl, hm, hz, rfl, hcell, hwz⟩
  · exact ⟨none, 0, 0, [], rfl, BS.nil0 _ _⟩
  · have hz' : zs.length = cap := by simpa using hz
    have hr := hs ((zs.take len).length + (zs.drop len).length) (by simp [DataW.weights, Try.underlying23, bytes5, lits])
    simp only [List.length_take, List.length_drop, reachBytes] at hr
    refine ⟨some a, len, cap, zs.take len, rfl, ⟨show _ = _ by simp; omega, (fun e => by cases e), hl, by unfold maxLen at hm; omega, by omega, fun h0 => ?_, bts_wf fun y hy => hwz y (List.mem_of_mem_take hy)⟩⟩
    obtain ⟨b, off, rfl, hc⟩ := ints_at hcell (by omega)
    refine ⟨b, off, rfl, block_lt_of_cell (hc 0 (by omega)), fun t ht => ?_⟩
    rw [hc t (by omega)]
    simp [bat, List.getElem?_take_of_lt ht]

/-- The four cells of a frame at an address. -/
theorem four_at {a : Addr} {cs : List Value} (h : W.cells? base a 4 = some cs) : ∃ b off x y z u, a = ⟨b, off, none⟩ ∧ cs = [x, y, z, u] ∧ W.cell? ⟨b, off, none⟩ = some x ∧ W.cell? ⟨b, off + 1, none⟩ = some y ∧ W.cell? ⟨b, off + 2, none⟩ = some z ∧ W.cell? ⟨b, off + 3, none⟩ = some u := by
  unfold World.cells? at h
  split at h
  · have hr : List.range 4 = [0, 1, 2, 3] := rfl
    rw [hr] at h
    cases hx : W.cell? (a.add 0) with
    | none => simp [hx] at h
    | some x =>
      cases hy : W.cell? (a.add 1) with
      | none => simp [hx, hy] at h
      | some y =>
        cases hz : W.cell? (a.add 2) with
        | none => simp [hx, hy, hz] at h
        | some z =>
          cases hu : W.cell? (a.add 3) with
          | none => simp [hx, hy, hz, hu] at h
          | some u =>
            simp [hx, hy, hz, hu] at h
            obtain ⟨b, off, spot⟩ := a
            have hspot : spot = none := by simpa [Addr.add] using World.cell?_spot hx
            subst hspot
            rw [Addr.add_mid] at hx hy hz hu
            exact ⟨b, off, x, y, z, u, rfl, h.symm, hx, hy, hz, hu⟩
  · cases h
theorem i64_open {x : Int} (h : (Lit.int .i64 x).wf = true) : -9223372036854775808 ≤ x ∧ x ≤ 9223372036854775807 := by
  have hmin : IntKind.i64.min = -9223372036854775808 := rfl
  have hmax : IntKind.i64.max = 9223372036854775807 := rfl
  simp only [Lit.wf, Bool.and_eq_true, decide_eq_true_eq] at h
  omega
set_option maxRecDepth 100000 in
theorem fr_of_trod (fuel : Nat) (cs : List Value) (x : DataW H × List MemPlace) (h : DataW.trod enc Try.prog W base (fun _ => true) true fuel 25 cs = some x) (hs : Small 25 x.1) :
    ∃ f : Fr, cs = [.int .u64 f.ch, .int .i64 f.seq, .bool f.last, .slice f.sp f.n f.cap] ∧ FrOK W.heap.size W f := by
  obtain ⟨xs, n, rfl, rfl, hl, hxl, hf⟩ := DataW.trod_struct Try.underlying25 h
  rw [cells25] at hl
  simp at hxl
  match cs, hl with
  | [c0, c1, c2, c3], _ =>
  match xs, hxl with
  | [x0, x1, x2, x3], _ =>
  have f0 := hf 0 _ rfl
  have f1 := hf 1 _ rfl
  have f2 := hf 2 _ rfl
  have f3 := hf 3 _ rfl
  simp [cells3, cells4, cells22, cells23] at f0 f1 f2 f3
  have s3 : Small 23 x3.1 := fun m hm => hs m (by simp [DataW.weights, Try.underlying25, DataW.weightsEach, hm])
  obtain ⟨z0, e0, -, w0⟩ := DataW.trod_int Try.underlying22 f0
  obtain ⟨z1, e1, -, w1⟩ := DataW.trod_int Try.underlying3 f1
  obtain ⟨l, e2, -⟩ := DataW.trod_bool Try.underlying4 f2
  obtain ⟨sp, m, cap, L, e3, hB⟩ := bs_of_trod f3 s3
  cases e0; cases e1; cases e2; cases e3
  obtain ⟨m0, rfl, hm0⟩ := u64_open w0
  obtain ⟨h1, h2⟩ := i64_open w1
  exact ⟨⟨m0, z1, l, sp, m, cap, L⟩, rfl, by show (0 : Int) ≤ m0; omega, by show (m0 : Int) ≤ _; omega, h1, h2, hB⟩

set_option maxRecDepth 100000 in
theorem fs_of_trod {fuel : Nat} {cs : List Value} {x : DataW H × List MemPlace} (h : DataW.trod enc Try.prog W base (fun _ => true) true fuel 39 cs = some x) (hs : Small 39 x.1) :
    ∃ sq k cq fs, cs = [.slice sq k cq] ∧ FrS W.heap.size W sq k cq fs := by
  rcases DataW.trod_slice Try.underlying39 h with ⟨rfl, -⟩ | ⟨a, len, cap, elems, rest, n, rfl, rfl, rfl, hb, hlc, hm, hlen, hel, hsp, -⟩
  · exact ⟨none, 0, 0, [], rfl, ⟨rfl, fun _ => ⟨rfl, rfl⟩, Nat.le_refl _, by omega, by omega, fun h => by omega, fun f hf => by simp at hf⟩⟩
  · obtain ⟨hrl, -⟩ := hsp rfl
    have hr := hs ((elems.length + rest.length) * 48) (by simp [DataW.weights, Try.underlying39, bytes25])
    simp only [reachBytes] at hr
    have hw : ∀ e ∈ elems, Small 25 e.1 := fun e he m hm => hs m (by
      simp only [DataW.weights, Try.underlying39]
      exact List.mem_cons_of_mem _ (List.mem_append_left _ (weights_all (List.mem_map_of_mem he) m hm)))
    have hstep : ∀ i, i < len → ∃ g off, ∃ f : Fr, a.add (i * 4) = ⟨g, off, none⟩ ∧ (W.cell? ⟨g, off, none⟩ = some (.int .u64 f.ch) ∧ W.cell? ⟨g, off + 1, none⟩ = some (.int .i64 f.seq) ∧ W.cell? ⟨g, off + 2, none⟩ = some (.bool f.last) ∧ W.cell? ⟨g, off + 3, none⟩ = some (.slice f.sp f.n f.cap)) ∧ FrOK W.heap.size W f := fun i hi => by
      have h1 := hel i hi
      rw [cells25, List.getElem?_eq_getElem (by omega), Option.bind_eq_some_iff] at h1
      obtain ⟨cs, hcs, ht⟩ := h1
      obtain ⟨g, off, x, y, z, u, e, hc, h0, h2, h3, h4⟩ := four_at hcs
      obtain ⟨f, hf, ho⟩ := fr_of_trod n cs _ ht (hw _ (List.getElem_mem _))
      rw [hc] at hf
      cases hf
      exact ⟨g, off, f, e, ⟨h0, h2, h3, h4⟩, ho⟩
    by_cases h0 : 0 < len
    · obtain ⟨g, off, -, e, -⟩ := hstep 0 h0
      have ha : a = ⟨g, off, none⟩ := by simpa [Addr.add] using e
      subst ha
      obtain ⟨l, hl, hP⟩ := exists_list (P := fun i (f : Fr) => (W.cell? ⟨g, off + i * 4, none⟩ = some (.int .u64 f.ch) ∧ W.cell? ⟨g, off + i * 4 + 1, none⟩ = some (.int .i64 f.seq) ∧ W.cell? ⟨g, off + i * 4 + 2, none⟩ = some (.bool f.last) ∧ W.cell? ⟨g, off + i * 4 + 3, none⟩ = some (.slice f.sp f.n f.cap)) ∧ FrOK W.heap.size W f) len (fun i hi => by
        obtain ⟨g', off', f, e', h1, ho⟩ := hstep i hi
        rw [Addr.add_mid] at e'
        cases e'
        exact ⟨f, h1, ho⟩)
      refine ⟨some ⟨g, off, none⟩, len, cap, l, rfl, ⟨show _ = _ by simp [hl], (fun e => by cases e), hlc, by unfold maxLen at hm; omega, by omega, fun _ => ⟨g, off, rfl, ?_, fun i f hf => (hP i f hf).1⟩, fun f hf => ?_⟩⟩
      · obtain ⟨p, hp⟩ : ∃ p, l[0]? = some p := ⟨l[0], List.getElem?_eq_getElem (by omega)⟩
        exact block_lt_of_cell (hP 0 p hp).1.1
      · obtain ⟨i, hi⟩ := List.mem_iff_getElem?.1 hf
        exact (hP i f hi).2
    · obtain rfl : len = 0 := by omega
      exact ⟨some a, 0, cap, [], rfl, ⟨rfl, (fun e => by cases e), by omega, by unfold maxLen at hm; omega, by omega, fun h => by omega, fun f hf => by simp at hf⟩⟩

set_option maxRecDepth 100000 in
/-- FRAMES THAT CAME IN. -/
theorem open_frames {b0 : Nat} {v : Value} {d : DataW H} {p : List MemPlace} {ts : List TypeId} {ds : List (DataW H)} {j : Nat}
    (hv : Value.okWide Try.prog W .any b0 39 v) (h : DataW.Trod enc Try.prog W base (fun _ => true) true 39 v d p)
    (hsz : (DataW.weightsEach Try.prog ts ds).all (· ≤ reachBytes) = true) (ht : ts[j]? = some 39) (hd : ds[j]? = some d) :
    ∃ sq k cq fs, v = .slice sq k cq ∧ FrS W.heap.size W sq k cq fs := by
  obtain ⟨a0, len0, cap0, rfl⟩ := okWide_slice Try.underlying39 hv
  obtain ⟨fuel, hf⟩ := h
  have hs : Small 39 d := fun n hn => by
    have := List.all_eq_true.1 hsz n (DataW.weights_mem_each ht hd n hn)
    simpa using this
  obtain ⟨sq, k, cq, fs, e, hi⟩ := fs_of_trod (x := (d, p)) hf hs
  simp [Value.cells] at e
  obtain ⟨rfl, rfl, rfl⟩ := e
  exact ⟨_, _, _, fs, rfl, hi⟩
set_option maxRecDepth 100000 in
/-- A FRAME THAT CAME IN. -/
theorem open_frame {b0 : Nat} {v : Value} {d : DataW H} {p : List MemPlace} {ts : List TypeId} {ds : List (DataW H)} {j : Nat}
    (hv : Value.okWide Try.prog W .any b0 25 v) (h : DataW.Trod enc Try.prog W base (fun _ => true) true 25 v d p)
    (hsz : (DataW.weightsEach Try.prog ts ds).all (· ≤ reachBytes) = true) (ht : ts[j]? = some 25) (hd : ds[j]? = some d) :
    ∃ f : Fr, v = f.val ∧ FrOK W.heap.size W f := by
  unfold Value.okWide at hv
  rw [Try.underlying25] at hv
  obtain ⟨cs, rfl, hc, -⟩ := hv
  obtain ⟨fuel, hf⟩ := h
  have hs : Small 25 d := fun n hn => by
    have := List.all_eq_true.1 hsz n (DataW.weights_mem_each ht hd n hn)
    simpa using this
  obtain ⟨f, e, hi⟩ := fr_of_trod fuel _ (d, p) hf hs
  have e' : cs = #[.int .u64 f.ch, .int .i64 f.seq, .bool f.last, .slice f.sp f.n f.cap] := by
    apply Array.toList_inj.1; simpa [Value.cells] using e
  subst e'
  exact ⟨f, rfl, hi⟩
end
set_option maxRecDepth 100000 in
/-- An array of two ints. -/
theorem arr2 {W : World} {H : Type} {enc : TypeId × Value → H} {base b0 : Nat} {v : Value} {d : DataW H} {p : List MemPlace} (hv : Value.okWide Try.prog W .any b0 40 v) (h : DataW.Trod enc Try.prog W base (fun _ => true) true 40 v d p) :
    ∃ x y : Int, v = .agg #[.int .i64 x, .int .i64 y] ∧ (-9223372036854775808 ≤ x ∧ x ≤ 9223372036854775807) ∧ (-9223372036854775808 ≤ y ∧ y ≤ 9223372036854775807) := by
  obtain ⟨X, hX, hv', hw⟩ := open_arr Try.underlying40 Try.underlying3 (by kernel_rfl) (by kernel_rfl) hv h
  match X, hX with
  | [x, y], _ =>
    exact ⟨x, y, hv', i64_open (hw x (by simp)), i64_open (hw y (by simp))⟩
end Go.Proofs.Ytbjlmekafnpllab
