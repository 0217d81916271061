/- Layer collide: byte strings that came in, of a bounded bulk. -/
import Derived.Test.YtgjnbpimldjkpaaLf
import Derived.Test.YtgjnbpimldjkpaaCm
namespace Go.Proofs.Ytgjnbpimldjkpaa
open Go.ChangeShapes Go.WideShapes Go.ChangeAt Go.RowKit
set_option linter.unusedVariables false
set_option linter.unusedSimpArgs false

theorem bulk_pos {H : Type} (d : DataW H) : 0 < Rows.uptoBulk d := by
  unfold Rows.uptoBulk
  split <;> omega
theorem bulk_count {H : Type} : ∀ l : List (DataW H), l.length ≤ Rows.uptoBulkAll l
  | [] => by simp
  | d :: r => by
    have h1 := bulk_pos d
    have h2 := bulk_count r
    rw [Rows.uptoBulkAll, List.length_cons]
    omega
theorem bulk_in {H : Type} {d : DataW H} : ∀ {l : List (DataW H)}, d ∈ l → Rows.uptoBulk d ≤ Rows.uptoBulkAll l
  | x :: r, h => by
    rw [Rows.uptoBulkAll]
    rcases List.mem_cons.1 h with rfl | h
    · omega
    · have := bulk_in h; omega
theorem bulk_slice {H : Type} (a b : List (DataW H)) : a.length + b.length ≤ Rows.uptoBulk (.slice a b) := by
  have h1 := bulk_count a
  have h2 := bulk_count b
  rw [Rows.uptoBulk]
  omega
theorem bulk_elem {H : Type} {d : DataW H} {a b : List (DataW H)} (h : d ∈ a) : Rows.uptoBulk d ≤ Rows.uptoBulk (.slice a b) := by
  have h1 := bulk_in h
  rw [Rows.uptoBulk]
  omega

section
variable {H : Type} {enc : TypeId × Value → H} {W : World} {base : Nat}
set_option maxRecDepth 100000 in
theorem bs_of_trodB {fuel : Nat} {cs : List Value} {x : DataW H × List MemPlace} (h : DataW.trod enc Try.prog W base (fun _ => true) true fuel 38 cs = some x) (hk : Rows.uptoBulk x.1 ≤ 2000000) :
    ∃ sp n cap L, cs = [.slice sp n cap] ∧ BS W.heap.size W sp n cap L ∧ n ≤ 1000000000 := by
  rcases open_ints Try.underlying38 Try.underlying5 (by kernel_rfl) h with ⟨rfl, _⟩ | ⟨a, len, cap, zs, rfl, _, hl, hm, hz, rfl, hcell, hwz⟩
  · exact ⟨none, 0, 0, [], rfl, BS.nil0 _ _, by omega⟩
  · have hz' : zs.length = cap := by simpa using hz
    have hr := Nat.le_trans (bulk_slice _ _) hk
    simp only [lits, List.length_map, List.length_take, List.length_drop] at hr
    refine ⟨some a, len, cap, zs.take len, rfl, ⟨show _ = _ by simp; omega, (fun e => by cases e), hl, by unfold maxLen at hm; omega, by omega, fun h0 => ?_, bts_wf fun y hy => hwz y (List.mem_of_mem_take hy)⟩, by omega⟩
    obtain ⟨b, off, rfl, hc⟩ := ints_at hcell (by omega)
    refine ⟨b, off, rfl, block_lt_of_cell (hc 0 (by omega)), fun t ht => ?_⟩
    rw [hc t (by omega)]
    simp [bat, List.getElem?_take_of_lt ht]
set_option maxRecDepth 100000 in
theorem bl_of_trod {fuel : Nat} {cs : List Value} {x : DataW H × List MemPlace} (h : DataW.trod enc Try.prog W base (fun _ => true) true fuel 48 cs = some x) (hk : Rows.uptoBulk x.1 ≤ 2000000) :
    ∃ sq k cq es, cs = [.slice sq k cq] ∧ BL W.heap.size W sq k cq es ∧ k ≤ 1000000000 := by
  rcases DataW.trod_slice Try.underlying48 h with ⟨rfl, -⟩ | ⟨a, len, cap, elems, rest, n, rfl, rfl, rfl, hb, hlc, hm, hlen, hel, hsp, -⟩
  · exact ⟨none, 0, 0, [], rfl, ⟨rfl, (fun h => absurd h (by omega)), (fun e h => by cases h)⟩, by omega⟩
  · have hr := Nat.le_trans (bulk_slice _ _) hk
    simp only [List.length_map] at hr
    have hw : ∀ e ∈ elems, Rows.uptoBulk e.1 ≤ 2000000 := fun e he => Nat.le_trans (bulk_elem (List.mem_map_of_mem he)) hk
    have hstep : ∀ i, i < len → ∃ g off, ∃ e : En, a.add (i * 1) = ⟨g, off, none⟩ ∧ W.cell? ⟨g, off, none⟩ = some (.slice e.sp e.n e.cap) ∧ BS W.heap.size W e.sp e.n e.cap e.bs ∧ e.n ≤ 1000000000 := fun i hi => by
      have h1 := hel i hi
      rw [cells38, List.getElem?_eq_getElem (by omega), Option.bind_eq_some_iff] at h1
      obtain ⟨cs, hcs, ht⟩ := h1
      obtain ⟨g, off, e, hR⟩ := cells_at (by omega) hcs
      obtain ⟨sp, m, cp, L, rfl, hB, hn⟩ := bs_of_trodB ht (hw _ (List.getElem_mem _))
      exact ⟨g, off, ⟨sp, m, cp, L, []⟩, e, by simpa using hR 0 _ rfl, hB, hn⟩
    by_cases h0 : 0 < len
    · obtain ⟨g, off, -, e, -⟩ := hstep 0 h0
      have ha : a = ⟨g, off, none⟩ := by simpa [Addr.add] using e
      subst ha
      obtain ⟨l, hl, hP⟩ := exists_list (P := fun i (f : En) => W.cell? ⟨g, off + i, none⟩ = some (.slice f.sp f.n f.cap) ∧ BS W.heap.size W f.sp f.n f.cap f.bs ∧ f.n ≤ 1000000000) len (fun i hi => by
        obtain ⟨g', off', f, e', h1, ho⟩ := hstep i hi
        rw [Addr.add_mid, Nat.mul_one] at e'
        cases e'
        exact ⟨f, h1, ho⟩)
      refine ⟨some ⟨g, off, none⟩, len, cap, l, rfl, ⟨show _ = _ by simp [hl], fun _ => ⟨g, off, rfl, ?_, fun i f hf => (hP i f hf).1⟩, fun f hf => ?_⟩, by omega⟩
      · obtain ⟨p, hp⟩ : ∃ p, l[0]? = some p := ⟨l[0], List.getElem?_eq_getElem (by omega)⟩
        exact block_lt_of_cell (hP 0 p hp).1
      · obtain ⟨i, hi⟩ := List.mem_iff_getElem?.1 hf
        exact (hP i f hi).2
    · obtain rfl : len = 0 := by omega
      exact ⟨some a, 0, cap, [], rfl, ⟨rfl, (fun h => absurd h (by omega)), (fun e h => by cases h)⟩, by omega⟩
/-- BYTE STRINGS THAT CAME IN. -/
theorem open_strings {b0 : Nat} {v : Value} {d : DataW H} {p : List MemPlace}
    (hv : Value.okWide Try.prog W .any b0 48 v) (h : DataW.Trod enc Try.prog W base (fun _ => true) true 48 v d p) (hk : Rows.uptoBulk d ≤ 2000000) :
    ∃ sq k cq es, v = .slice sq k cq ∧ BL W.heap.size W sq k cq es ∧ k ≤ 1000000000 := by
  obtain ⟨a0, len0, cap0, rfl⟩ := okWide_slice Try.underlying48 hv
  obtain ⟨fuel, hf⟩ := h
  obtain ⟨sq, k, cq, fs, e, hi⟩ := bl_of_trod (x := (d, p)) hf hk
  simp [Value.cells] at e
  obtain ⟨rfl, rfl, rfl⟩ := e
  exact ⟨_, _, _, fs, rfl, hi⟩
end
end Go.Proofs.Ytgjnbpimldjkpaa
