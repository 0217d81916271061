/- Layer collide: what came in. -/
import Derived.Test.YtgjnbpimldjkpaaCh
import Derived.Test.YtgjnbpimldjkpaaTp
namespace Go.Proofs.Ytgjnbpimldjkpaa
open Go.ChangeShapes Go.WideShapes Go.ChangeAt Go.RowKit
set_option linter.unusedVariables false
set_option linter.unusedSimpArgs false

theorem exists_list {α : Type} {P : Nat → α → Prop} : ∀ (n : Nat), (∀ i, i < n → ∃ a, P i a) → ∃ l : List α, l.length = n ∧ ∀ i a, l[i]? = some a → P i a
  | 0, _ => ⟨[], rfl, fun i a h => by simp at h⟩
  | n + 1, h => by
    obtain ⟨l, hl, hP⟩ := exists_list n (fun i hi => h i (by omega))
    obtain ⟨a, ha⟩ := h n (by omega)
    refine ⟨l ++ [a], by simp [hl], fun i b hb => ?_⟩
    by_cases hi : i < n
    · rw [List.getElem?_append_left (by omega)] at hb; exact hP i b hb
    · rw [List.getElem?_append_right (by omega)] at hb
      have : i - l.length = 0 := by have := (List.getElem?_eq_some_iff.1 hb).1; simp at this; omega
      rw [this] at hb
      simp at hb
      subst hb
      obtain rfl : i = n := by omega
      exact ha
theorem weights_all {H : Type} {P : Program} {e : TypeId} {l : List (DataW H)} {d : DataW H} (hd : d ∈ l) : ∀ n ∈ d.weights P e, n ∈ DataW.weightsAll P e l := by
  induction l with
  | nil => simp at hd
  | cons x r ih =>
    intro n hn
    rw [DataW.weightsAll]
    rcases List.mem_cons.1 hd with rfl | h
    · exact List.mem_append_left _ hn
    · exact List.mem_append_right _ (ih h n hn)
/-- Nothing in it is greater than the reach. -/
def Small {H : Type} (t : TypeId) (d : DataW H) : Prop := ∀ n ∈ d.weights Try.prog t, n ≤ reachBytes
theorem bts_wf {L : List Int} (h : ∀ x ∈ L, (Lit.int .u8 x).wf = true) : Bts L := fun x hx => by
  have h1 := h x hx
  have hmin : IntKind.u8.min = 0 := rfl
  have hmax : IntKind.u8.max = 255 := rfl
  simp only [Lit.wf, Bool.and_eq_true, decide_eq_true_eq] at h1
  omega
theorem cells5 : Try.prog.cellsOf 5 = 1 := by kernel_rfl
theorem cells29 : Try.prog.cellsOf 29 = 32 := by kernel_rfl
theorem cells30 : Try.prog.cellsOf 30 = 1 := by kernel_rfl
theorem cells38 : Try.prog.cellsOf 38 = 1 := by kernel_rfl
theorem cells32 : Try.prog.cellsOf 32 = 66 := by kernel_rfl
theorem cells54 : Try.prog.cellsOf 54 = 33 := by kernel_rfl
theorem bytes29 : Try.prog.bytesOf 29 = 32 := by kernel_rfl
theorem bytes38 : Try.prog.bytesOf 38 = 24 := by kernel_rfl
theorem bytes54 : Try.prog.bytesOf 54 = 56 := by kernel_rfl

section
variable {H : Type} {enc : TypeId × Value → H} {W : World} {base : Nat}

set_option maxRecDepth 100000 in
theorem bs_of_trod {fuel : Nat} {cs : List Value} {x : DataW H × List MemPlace} (h : DataW.trod enc Try.prog W base (fun _ => true) true fuel 38 cs = some x) (hs : Small 38 x.1) :
    ∃ sp n cap L, cs = [.slice sp n cap] ∧ BS W.heap.size W sp n cap L := by
  rcases open_ints Try.underlying38 Try.underlying5 (by kernel_rfl) h with ⟨rfl, _⟩ | ⟨a, len, cap, zs, rfl, _, hl, hm, hz, rfl, hcell, hwz⟩
  · exact ⟨none, 0, 0, [], rfl, BS.nil0 _ _⟩
  · have hz' : zs.length = cap := by simpa using hz
    have hr := hs ((zs.take len).length + (zs.drop len).length) (by simp [DataW.weights, Try.underlying38, bytes5, lits])
    simp only [List.length_take, List.length_drop, reachBytes] at hr
    refine ⟨some a, len, cap, zs.take len, rfl, ⟨show _ = _ by simp; omega, (fun e => by cases e), hl, by unfold maxLen at hm; omega, by omega, fun h0 => ?_, bts_wf fun y hy => hwz y (List.mem_of_mem_take hy)⟩⟩
    obtain ⟨b, off, rfl, hc⟩ := ints_at hcell (by omega)
    refine ⟨b, off, rfl, block_lt_of_cell (hc 0 (by omega)), fun t ht => ?_⟩
    rw [hc t (by omega)]
    simp [bat, List.getElem?_take_of_lt ht]
theorem h_of_trod {fuel : Nat} {cs : List Value} {x : DataW H × List MemPlace} (h : DataW.trod enc Try.prog W base (fun _ => true) true fuel 29 cs = some x) : ∃ X : List Int, X.length = 32 ∧ Bts X ∧ cs = by8 X := by
  obtain ⟨xs, m, -, hx, hl, hxs, hi⟩ := DataW.trod_array Try.underlying29 h
  rw [cells29] at hl
  have key : ∀ i, i < 32 → ∃ z, cs[i]? = some (.int .u8 z) ∧ (Lit.int .u8 z).wf = true := fun i hin => by
    have := hi i hin
    rw [List.getElem?_eq_getElem (by omega), cells5] at this
    obtain ⟨z, hz, -, hw⟩ := DataW.trod_int Try.underlying5 this
    refine ⟨z, ?_, hw⟩
    simp only [Nat.mul_one] at hz
    have h2 : (List.take 1 (List.drop i cs))[0]? = some (.int .u8 z) := by rw [hz]; rfl
    simpa using h2
  refine ⟨cs.map fun v => match v with | .int _ z => z | _ => 0, by simp [hl], bts_wf fun y hy => ?_, ?_⟩
  · obtain ⟨v, hv, rfl⟩ := List.mem_map.1 hy
    obtain ⟨i, hin, rfl⟩ := List.mem_iff_getElem.1 hv
    obtain ⟨z, hz, hw⟩ := key i (by omega)
    rw [List.getElem?_eq_getElem hin] at hz
    rw [Option.some.inj hz]; exact hw
  · apply List.ext_getElem?
    intro i
    by_cases hin : i < 32
    · obtain ⟨z, hz, -⟩ := key i hin
      simp [by8, hz]
    · rw [List.getElem?_eq_none (by omega), List.getElem?_eq_none (by rw [by8_len]; simp; omega)]
/-- The cells at an address. -/
theorem cells_at {a : Addr} {k : Nat} {cs : List Value} (hk : 0 < k) (h : W.cells? base a k = some cs) : ∃ b off, a = ⟨b, off, none⟩ ∧ W.rangeAt b off cs := by
  obtain ⟨-, hl, hc⟩ := World.cells?_some h
  have h0 := hc 0 hk
  have h0' : ∃ v, cs[0]? = some v := by
    cases cs with
    | nil => simp at hl; omega
    | cons x r => exact ⟨x, rfl⟩
  obtain ⟨v0, hv0⟩ := h0'
  rw [hv0] at h0
  obtain ⟨b, off, spot⟩ := a
  have hspot : spot = none := by simpa [Addr.add] using World.cell?_spot h0
  subst hspot
  refine ⟨b, off, rfl, fun j v hv => ?_⟩
  have hj : j < k := by have := (List.getElem?_eq_some_iff.1 hv).1; omega
  have := hc j hj
  rw [Addr.add_mid] at this
  rw [this]; exact hv
set_option maxRecDepth 100000 in
theorem en_of_trod (fuel : Nat) (cs : List Value) (x : DataW H × List MemPlace) (h : DataW.trod enc Try.prog W base (fun _ => true) true fuel 54 cs = some x) (hs : Small 54 x.1) :
    ∃ e : En, cs = e.cells ∧ EnOK W.heap.size W e := by
  obtain ⟨xs, n, rfl, rfl, hl, hxl, hf⟩ := DataW.trod_struct Try.underlying54 h
  rw [cells54] at hl
  simp at hxl
  match xs, hxl with
  | [x0, x1], _ =>
  have f0 := hf 0 _ rfl
  have f1 := hf 1 _ rfl
  simp [cells38, cells29] at f0 f1
  have s0 : Small 38 x0.1 := fun m hm => hs m (by simp [DataW.weights, Try.underlying54, DataW.weightsEach, hm])
  obtain ⟨sp, m, cap, L, e0, hB⟩ := bs_of_trod f0 s0
  obtain ⟨X, hX, -, e1⟩ := h_of_trod f1
  refine ⟨⟨sp, m, cap, L, X⟩, ?_, hB, hX⟩
  match cs, hl with
  | c :: r, hl =>
    simp at e0
    subst e0
    simp at e1 hl
    rw [List.take_of_length_le (by omega)] at e1
    rw [e1]; rfl
set_option maxRecDepth 100000 in
theorem es_of_trod {fuel : Nat} {cs : List Value} {x : DataW H × List MemPlace} (h : DataW.trod enc Try.prog W base (fun _ => true) true fuel 22 cs = some x) (hs : Small 22 x.1) :
    ∃ sq k cq es, cs = [.slice sq k cq] ∧ ES W.heap.size W sq k cq es := by
  rcases DataW.trod_slice Try.underlying22 h with ⟨rfl, -⟩ | ⟨a, len, cap, elems, rest, n, rfl, rfl, rfl, hb, hlc, hm, hlen, hel, hsp, -⟩
  · exact ⟨none, 0, 0, [], rfl, ES.nil0 _ _⟩
  · obtain ⟨hrl, -⟩ := hsp rfl
    have hr := hs ((elems.length + rest.length) * 56) (by simp [DataW.weights, Try.underlying22, bytes54])
    simp only [reachBytes] at hr
    have hw : ∀ e ∈ elems, Small 54 e.1 := fun e he m hm => hs m (by
      simp only [DataW.weights, Try.underlying22]
      exact List.mem_cons_of_mem _ (List.mem_append_left _ (weights_all (List.mem_map_of_mem he) m hm)))
    have hstep : ∀ i, i < len → ∃ g off, ∃ e : En, a.add (i * 33) = ⟨g, off, none⟩ ∧ W.rangeAt g off e.cells ∧ EnOK W.heap.size W e := fun i hi => by
      have h1 := hel i hi
      rw [cells54, List.getElem?_eq_getElem (by omega), Option.bind_eq_some_iff] at h1
      obtain ⟨cs, hcs, ht⟩ := h1
      obtain ⟨g, off, e, hR⟩ := cells_at (by omega) hcs
      obtain ⟨f, hf, ho⟩ := en_of_trod n cs _ ht (hw _ (List.getElem_mem _))
      subst hf
      exact ⟨g, off, f, e, hR, ho⟩
    by_cases h0 : 0 < len
    · obtain ⟨g, off, -, e, -⟩ := hstep 0 h0
      have ha : a = ⟨g, off, none⟩ := by simpa [Addr.add] using e
      subst ha
      obtain ⟨l, hl, hP⟩ := exists_list (P := fun i (f : En) => W.rangeAt g (off + i * 33) f.cells ∧ EnOK W.heap.size W f) len (fun i hi => by
        obtain ⟨g', off', f, e', h1, ho⟩ := hstep i hi
        rw [Addr.add_mid] at e'
        cases e'
        exact ⟨f, h1, ho⟩)
      refine ⟨some ⟨g, off, none⟩, len, cap, l, rfl, ⟨show _ = _ by simp [hl], (fun e => by cases e), hlc, by unfold maxLen at hm; omega, by omega, fun _ => ⟨g, off, rfl, ?_, fun i f hf => (hP i f hf).1⟩, fun f hf => ?_⟩⟩
      · obtain ⟨p, hp⟩ : ∃ p, l[0]? = some p := ⟨l[0], List.getElem?_eq_getElem (by omega)⟩
        exact block_lt_of_cell ((hP 0 p hp).1 0 _ rfl)
      · obtain ⟨i, hi⟩ := List.mem_iff_getElem?.1 hf
        exact (hP i f hi).2
    · obtain rfl : len = 0 := by omega
      exact ⟨some a, 0, cap, [], rfl, ⟨rfl, (fun e => by cases e), by omega, by unfold maxLen at hm; omega, by omega, fun h => by omega, fun f hf => by simp at hf⟩⟩
set_option maxRecDepth 100000 in
theorem hs_of_trod {fuel : Nat} {cs : List Value} {x : DataW H × List MemPlace} (h : DataW.trod enc Try.prog W base (fun _ => true) true fuel 30 cs = some x) (hs : Small 30 x.1) :
    ∃ sp n cap ls, cs = [.slice sp n cap] ∧ HS W.heap.size W sp n cap ls ∧ ∀ X ∈ ls, Bts X := by
  rcases DataW.trod_slice Try.underlying30 h with ⟨rfl, -⟩ | ⟨a, len, cap, elems, rest, n, rfl, rfl, rfl, hb, hlc, hm, hlen, hel, hsp, -⟩
  · exact ⟨none, 0, 0, [], rfl, HS.nil0 _ _, fun X hX => by cases hX⟩
  · obtain ⟨hrl, -⟩ := hsp rfl
    have hr := hs ((elems.length + rest.length) * 32) (by simp [DataW.weights, Try.underlying30, bytes29])
    simp only [reachBytes] at hr
    have hstep : ∀ i, i < len → ∃ g off, ∃ X : List Int, a.add (i * 32) = ⟨g, off, none⟩ ∧ X.length = 32 ∧ Bts X ∧ W.rangeAt g off (by8 X) := fun i hi => by
      have h1 := hel i hi
      rw [cells29, List.getElem?_eq_getElem (by omega), Option.bind_eq_some_iff] at h1
      obtain ⟨cs, hcs, ht⟩ := h1
      obtain ⟨g, off, e, hR⟩ := cells_at (by omega) hcs
      obtain ⟨X, hX, bX, rfl⟩ := h_of_trod ht
      exact ⟨g, off, X, e, hX, bX, hR⟩
    by_cases h0 : 0 < len
    · obtain ⟨g, off, -, e, -⟩ := hstep 0 h0
      have ha : a = ⟨g, off, none⟩ := by simpa [Addr.add] using e
      subst ha
      obtain ⟨l, hl, hP⟩ := exists_list (P := fun i (X : List Int) => X.length = 32 ∧ Bts X ∧ W.rangeAt g (off + i * 32) (by8 X)) len (fun i hi => by
        obtain ⟨g', off', X, e', h1, ho⟩ := hstep i hi
        rw [Addr.add_mid] at e'
        cases e'
        exact ⟨X, h1, ho⟩)
      refine ⟨some ⟨g, off, none⟩, len, cap, l, rfl, ⟨show _ = _ by simp [hl], (fun e => by cases e), hlc, by unfold maxLen at hm; omega, by omega, fun _ => ⟨g, off, rfl, ?_, fun i X hX => (hP i X hX).2.2⟩, fun X hX => ?_⟩, fun X hX => ?_⟩
      · obtain ⟨X, hX⟩ : ∃ X, l[0]? = some X := ⟨l[0], List.getElem?_eq_getElem (by omega)⟩
        have h32 := (hP 0 X hX).1
        exact block_lt_of_cell ((hP 0 X hX).2.2 0 _ (by8_get (by omega)))
      · obtain ⟨i, hi⟩ := List.mem_iff_getElem?.1 hX
        exact (hP i X hi).1
      · obtain ⟨i, hi⟩ := List.mem_iff_getElem?.1 hX
        exact (hP i X hi).2.1
    · obtain rfl : len = 0 := by omega
      exact ⟨some a, 0, cap, [], rfl, ⟨rfl, (fun e => by cases e), by omega, by unfold maxLen at hm; omega, by omega, fun h => by omega, fun X hX => by cases hX⟩, fun X hX => by cases hX⟩
/-- ENTRIES THAT CAME IN. -/
theorem open_entries {b0 : Nat} {v : Value} {d : DataW H} {p : List MemPlace} {ts : List TypeId} {ds : List (DataW H)} {j : Nat}
    (hv : Value.okWide Try.prog W .any b0 22 v) (h : DataW.Trod enc Try.prog W base (fun _ => true) true 22 v d p)
    (hsz : (DataW.weightsEach Try.prog ts ds).all (· ≤ reachBytes) = true) (ht : ts[j]? = some 22) (hd : ds[j]? = some d) :
    ∃ sq k cq es, v = .slice sq k cq ∧ ES W.heap.size W sq k cq es := by
  obtain ⟨a0, len0, cap0, rfl⟩ := okWide_slice Try.underlying22 hv
  obtain ⟨fuel, hf⟩ := h
  have hs : Small 22 d := fun n hn => by
    have := List.all_eq_true.1 hsz n (DataW.weights_mem_each ht hd n hn)
    simpa using this
  obtain ⟨sq, k, cq, fs, e, hi⟩ := es_of_trod (x := (d, p)) hf hs
  simp [Value.cells] at e
  obtain ⟨rfl, rfl, rfl⟩ := e
  exact ⟨_, _, _, fs, rfl, hi⟩
/-- What two leaves with their proofs are. -/
def twoC (A B : List Int) (sp : Option Addr) (n cap : Nat) (sp' : Option Addr) (n' cap' : Nat) : List Value := by8 A ++ by8 B ++ [.slice sp n cap, .slice sp' n' cap']
set_option maxRecDepth 100000 in
/-- TWO LEAVES WITH THEIR PROOFS THAT CAME IN. -/
theorem open_two {b0 : Nat} {v : Value} {d : DataW H} {p : List MemPlace} {ts : List TypeId} {ds : List (DataW H)} {j : Nat}
    (hv : Value.okWide Try.prog W .any b0 32 v) (h : DataW.Trod enc Try.prog W base (fun _ => true) true 32 v d p)
    (hsz : (DataW.weightsEach Try.prog ts ds).all (· ≤ reachBytes) = true) (ht : ts[j]? = some 32) (hd : ds[j]? = some d) :
    ∃ A B sp n cap ls sp' n' cap' ls', v = .agg (twoC A B sp n cap sp' n' cap').toArray ∧ A.length = 32 ∧ Bts A ∧ B.length = 32 ∧ Bts B ∧ HS W.heap.size W sp n cap ls ∧ (∀ X ∈ ls, Bts X) ∧ HS W.heap.size W sp' n' cap' ls' ∧ (∀ X ∈ ls', Bts X) := by
  unfold Value.okWide at hv
  rw [Try.underlying32] at hv
  obtain ⟨cs, rfl, hc, -⟩ := hv
  obtain ⟨fuel, hf⟩ := h
  have hs : Small 32 d := fun n hn => by
    have := List.all_eq_true.1 hsz n (DataW.weights_mem_each ht hd n hn)
    simpa using this
  obtain ⟨xs, n, -, hdx, hl, hxl, hff⟩ := DataW.trod_struct Try.underlying32 hf
  rw [cells32] at hl
  simp at hxl
  match xs, hxl with
  | [x0, x1, x2, x3], _ =>
  have hd0 : d = _ := (Prod.ext_iff.1 hdx).1
  have f0 := hff 0 _ rfl
  have f1 := hff 1 _ rfl
  have f2 := hff 2 _ rfl
  have f3 := hff 3 _ rfl
  simp [cells29, cells30, Value.cells] at f0 f1 f2 f3
  obtain ⟨A, hA, bA, e0⟩ := h_of_trod f0
  obtain ⟨B, hB, bB, e1⟩ := h_of_trod f1
  have s2 : Small 30 x2.1 := fun m hm => hs m (by rw [hd0]; simp [DataW.weights, Try.underlying32, DataW.weightsEach, hm])
  have s3 : Small 30 x3.1 := fun m hm => hs m (by rw [hd0]; simp [DataW.weights, Try.underlying32, DataW.weightsEach, hm])
  obtain ⟨sp, m, cap, ls, e2, hS, bS⟩ := hs_of_trod f2 s2
  obtain ⟨sp', m', cap', ls', e3, hS', bS'⟩ := hs_of_trod f3 s3
  refine ⟨A, B, sp, m, cap, ls, sp', m', cap', ls', ?_, hA, bA, hB, bB, hS, bS, hS', bS'⟩
  have hl' : cs.toList.length = 66 := hl
  congr 1
  apply Array.toList_inj.1
  show cs.toList = twoC A B sp m cap sp' m' cap'
  have e : cs.toList = List.take 32 cs.toList ++ (List.take 32 (List.drop 32 cs.toList) ++ (List.take 1 (List.drop 64 cs.toList) ++ List.take 1 (List.drop 65 cs.toList))) := by
    rw [List.take_of_length_le (l := List.drop 65 cs.toList) (by rw [List.length_drop]; omega), show List.drop 65 cs.toList = List.drop 1 (List.drop 64 cs.toList) by rw [List.drop_drop], List.take_append_drop, show List.drop 64 cs.toList = List.drop 32 (List.drop 32 cs.toList) by rw [List.drop_drop], List.take_append_drop, List.take_append_drop]
  rw [e, e0, e1, e2, e3]
  simp [twoC]
end
end Go.Proofs.Ytgjnbpimldjkpaa
