/- Tp, Cm, Qk. -/
import Derived.Test.YtlebojbfcolkhaaA04
import Derived.ProofKit
import Derived.OpenShut
import Derived.ShutString
import Derived.ChangeOld
import Derived.SizedLaws
import Derived.Test.YtlebojbfcolkhaaCh
import Derived.Test.YtlebojbfcolkhaaA23
namespace Go.Proofs.Ytlebojbfcolkhaa
open Go.ChangeShapes Go.WideShapes Go.ChangeAt Go.RowKit
set_option maxRecDepth 100000

theorem own : ownKnob Try.prog.godebug = none := by kernel_rfl
theorem laidOut : laidOutB Try.prog = true := by kernel_rfl
theorem bytes5 : Try.prog.bytesOf 5 = 1 := by kernel_rfl

/-- AN ARRAY OF INTEGERS BY VALUE. -/
theorem open_arr {H : Type} {enc : TypeId × Value → H} {P : Program} {w : World} {base : Nat} {spare : Nat → Bool} {held : Bool} {r : Reach} {b0 : Nat} {t e n : Nat} {k : IntKind} {v : Value} {d : DataW H} {p : List MemPlace} (hu : P.underlying t = some (.array n e)) (he : P.underlying e = some (.int k)) (hc : P.cellsOf t = n) (hce : P.cellsOf e = 1)
    (hv : Value.okWide P w r b0 t v) (h : DataW.Trod enc P w base spare held t v d p) :
    ∃ X : List Int, X.length = n ∧ v = .agg (X.map (Value.int k)).toArray ∧ ∀ x ∈ X, (Lit.int k x).wf = true := by
  unfold Value.okWide at hv
  rw [hu] at hv
  obtain ⟨cs, rfl, hsz, -⟩ := hv
  obtain ⟨fuel, hf⟩ := h
  obtain ⟨xs, m, -, hx, hl, hxs, hi⟩ := DataW.trod_array hu hf
  have key : ∀ i, i < n → ∃ z, cs[i]? = some (.int k z) ∧ (Lit.int k z).wf = true := fun i hin => by
    have := hi i hin
    rw [List.getElem?_eq_getElem (by omega), hce] at this
    obtain ⟨z, hz, -, hwf⟩ := DataW.trod_int he this
    refine ⟨z, ?_, hwf⟩
    simp only [Value.cells, Nat.mul_one] at hz
    have h2 : (List.take 1 (List.drop i cs.toList))[0]? = some (.int k z) := by rw [hz]; rfl
    simpa using h2
  refine ⟨cs.toList.map fun v => match v with | .int _ z => z | _ => 0, by simp; omega, ?_, ?_⟩
  · congr 1
    apply Array.ext_getElem?
    intro i
    by_cases hin : i < n
    · obtain ⟨z, hz, -⟩ := key i hin
      simp [hz]
    · rw [Array.getElem?_eq_none (by omega), Array.getElem?_eq_none (by simp; omega)]
  · intro x hx
    obtain ⟨v, hv, rfl⟩ := List.mem_map.1 hx
    obtain ⟨i, hin, rfl⟩ := List.mem_iff_getElem.1 hv
    obtain ⟨z, hz, hwf⟩ := key i (by simp at hin; omega)
    have : cs.toList[i]? = some (.int k z) := by simpa using hz
    rw [List.getElem?_eq_getElem hin] at this
    rw [Option.some.inj this]; exact hwf

/-- A SLICE OF BYTES THAT CAME IN. -/
theorem open_bytes {H : Type} {enc : TypeId × Value → H} {W : World} {base : Nat} {b0 : Nat} {v : Value} {d : DataW H} {p : List MemPlace} {ts : List TypeId} {ds : List (DataW H)} {j : Nat}
    (hv : Value.okWide Try.prog W .any b0 59 v) (h : DataW.Trod enc Try.prog W base (fun _ => true) true 59 v d p)
    (hsz : (DataW.weightsEach Try.prog ts ds).all (· ≤ reachBytes) = true) (ht : ts[j]? = some 59) (hd : ds[j]? = some d) :
    ∃ (sp : Option Addr) (n cap : Nat) (L : List Int), v = .slice sp n cap ∧ n = L.length ∧ (sp = none → n = 0 ∧ cap = 0) ∧ SlL W sp L ∧ n ≤ cap ∧ cap ≤ 140737488351232 ∧ ∀ x ∈ L, (Lit.int .u8 x).wf = true := by
  obtain ⟨a0, len0, cap0, rfl⟩ := okWide_slice Try.underlying59 hv
  obtain ⟨fuel, hf⟩ := h
  rcases open_ints Try.underlying59 Try.underlying5 (by kernel_rfl) hf with ⟨hcs, _⟩ | ⟨x, l, c, zs, hcs, _, hl, hm, hz, hx, hcell, hwz⟩
  · simp [Value.cells] at hcs
    obtain ⟨rfl, rfl, rfl⟩ := hcs
    exact ⟨none, 0, 0, [], rfl, rfl, fun _ => ⟨rfl, rfl⟩, fun h => absurd h (by simp), Nat.le_refl _, by omega, by simp⟩
  · simp [Value.cells] at hcs
    obtain ⟨rfl, rfl, rfl⟩ := hcs
    have hz' : zs.length = cap0 := by simpa using hz
    have hd' : d = .slice (lits .u8 (zs.take len0)) (lits .u8 (zs.drop len0)) := (Prod.ext_iff.1 hx).1
    subst hd'
    have hr := sized_slice hsz ht hd Try.underlying59
    rw [bytes5] at hr
    simp only [lits, List.length_map, List.length_take, List.length_drop, reachBytes] at hr
    refine ⟨some x, len0, cap0, zs.take len0, rfl, by simp; omega, (fun h => by cases h), ?_, hl, by omega, fun y hy => hwz y (List.mem_of_mem_take hy)⟩
    intro h0
    have h0' : 0 < zs.length := by simp at h0; omega
    obtain ⟨b, off, rfl, hc⟩ := ints_at hcell h0'
    refine ⟨b, off, rfl, fun t ht => ?_⟩
    have htl : t < len0 := by simp at ht; omega
    rw [hc t (by omega)]
    simp [bat, List.getElem?_take_of_lt htl]
end Go.Proofs.Ytlebojbfcolkhaa
/- Layer collide: what came in. -/
namespace Go.Proofs.Ytlebojbfcolkhaa
open Go.ChangeShapes Go.WideShapes Go.ChangeAt Go.RowKit
set_option maxRecDepth 100000
set_option linter.unusedVariables false
set_option linter.unusedSimpArgs false

theorem exists_list {α : Type} {P : Nat → α → Prop} : ∀ (n : Nat), (∀ i, i < n → ∃ a, P i a) → ∃ l : List α, l.length = n ∧ ∀ i a, l[i]? = some a → P i a
  | 0, _ => ⟨[], rfl, fun i a h => by simp at h⟩
  | n + 1, h => by
    obtain ⟨l, hl, hP⟩ := exists_list n (fun i hi => h i (by omega))
    obtain ⟨a, ha⟩ := h n (by omega)
    refine ⟨l ++ [a], by simp [hl], fun i b hb => ?_⟩
    by_cases hi : i < n
    · rw [List.getElem?_append_left (by omega)] at hb; exact hP i b hb
    · rw [List.getElem?_append_right (by omega)] at hb
      have : i - l.length = 0 := by have := (List.getElem?_eq_some_iff.1 hb).1; simp at this; omega
      rw [this] at hb
      simp at hb
      subst hb
      obtain rfl : i = n := by omega
      exact ha
theorem weights_all {H : Type} {P : Program} {e : TypeId} {l : List (DataW H)} {d : DataW H} (hd : d ∈ l) : ∀ n ∈ d.weights P e, n ∈ DataW.weightsAll P e l := by
  induction l with
  | nil => simp at hd
  | cons x r ih =>
    intro n hn
    rw [DataW.weightsAll]
    rcases List.mem_cons.1 hd with rfl | h
    · exact List.mem_append_left _ hn
    · exact List.mem_append_right _ (ih h n hn)
/-- Nothing in it is greater than the reach. -/
def Small {H : Type} (t : TypeId) (d : DataW H) : Prop := ∀ n ∈ d.weights Try.prog t, n ≤ reachBytes
theorem bts_wf {L : List Int} (h : ∀ x ∈ L, (Lit.int .u8 x).wf = true) : Bts L := fun x hx => by
  have h1 := h x hx
  have hmin : IntKind.u8.min = 0 := rfl
  have hmax : IntKind.u8.max = 255 := rfl
  simp only [Lit.wf, Bool.and_eq_true, decide_eq_true_eq] at h1
  omega
theorem cells5 : Try.prog.cellsOf 5 = 1 := by kernel_rfl
theorem cells29 : Try.prog.cellsOf 24 = 32 := by kernel_rfl
theorem cells30 : Try.prog.cellsOf 42 = 1 := by kernel_rfl
theorem cells38 : Try.prog.cellsOf 59 = 1 := by kernel_rfl
theorem cells54 : Try.prog.cellsOf 77 = 33 := by kernel_rfl
theorem bytes29 : Try.prog.bytesOf 24 = 32 := by kernel_rfl
theorem bytes38 : Try.prog.bytesOf 59 = 24 := by kernel_rfl
theorem bytes54 : Try.prog.bytesOf 77 = 56 := by kernel_rfl

section
variable {H : Type} {enc : TypeId × Value → H} {W : World} {base : Nat}

set_option maxRecDepth 100000 in
theorem bs_of_trod {fuel : Nat} {cs : List Value} {x : DataW H × List MemPlace} (h : DataW.trod enc Try.prog W base (fun _ => true) true fuel 59 cs = some x) (hs : Small 59 x.1) :
    ∃ sp n cap L, cs = [.slice sp n cap] ∧ BS W.heap.size W sp n cap L := by
  rcases open_ints Try.underlying59 Try.underlying5 (by kernel_rfl) h with ⟨rfl, _⟩ | ⟨a, len, cap, zs, rfl, _, hl, hm, hz, rfl, hcell, hwz⟩
  · exact ⟨none, 0, 0, [], rfl, BS.nil0 _ _⟩
  · have hz' : zs.length = cap := by simpa using hz
    have hr := hs ((zs.take len).length + (zs.drop len).length) (by simp [DataW.weights, Try.underlying59, bytes5, lits])
    simp only [List.length_take, List.length_drop, reachBytes] at hr
    refine ⟨some a, len, cap, zs.take len, rfl, ⟨show _ = _ by simp; omega, (fun e => by cases e), hl, by unfold maxLen at hm; omega, by omega, fun h0 => ?_, bts_wf fun y hy => hwz y (List.mem_of_mem_take hy)⟩⟩
    obtain ⟨b, off, rfl, hc⟩ := ints_at hcell (by omega)
    refine ⟨b, off, rfl, block_lt_of_cell (hc 0 (by omega)), fun t ht => ?_⟩
    rw [hc t (by omega)]
    simp [bat, List.getElem?_take_of_lt ht]
theorem h_of_trod {fuel : Nat} {cs : List Value} {x : DataW H × List MemPlace} (h : DataW.trod enc Try.prog W base (fun _ => true) true fuel 24 cs = some x) : ∃ X : List Int, X.length = 32 ∧ Bts X ∧ cs = by8 X := by
  obtain ⟨xs, m, -, hx, hl, hxs, hi⟩ := DataW.trod_array Try.underlying24 h
  rw [cells29] at hl
  have key : ∀ i, i < 32 → ∃ z, cs[i]? = some (.int .u8 z) ∧ (Lit.int .u8 z).wf = true := fun i hin => by
    have := hi i hin
    rw [List.getElem?_eq_getElem (by omega), cells5] at this
    obtain ⟨z, hz, -, hw⟩ := DataW.trod_int Try.underlying5 this
    refine ⟨z, ?_, hw⟩
    simp only [Nat.mul_one] at hz
    have h2 : (List.take 1 (List.drop i cs))[0]? = some (.int .u8 z) := by rw [hz]; rfl
    simpa using h2
  refine ⟨cs.map fun v => match v with | .int _ z => z | _ => 0, by simp [hl], bts_wf fun y hy => ?_, ?_⟩
  · obtain ⟨v, hv, rfl⟩ := List.mem_map.1 hy
    obtain ⟨i, hin, rfl⟩ := List.mem_iff_getElem.1 hv
    obtain ⟨z, hz, hw⟩ := key i (by omega)
    rw [List.getElem?_eq_getElem hin] at hz
    rw [Option.some.inj hz]; exact hw
  · apply List.ext_getElem?
    intro i
    by_cases hin : i < 32
    · obtain ⟨z, hz, -⟩ := key i hin
      simp [by8, hz]
    · rw [List.getElem?_eq_none (by omega), List.getElem?_eq_none (by rw [by8_len]; simp; omega)]
/-- The cells at an address. -/
theorem cells_at {a : Addr} {k : Nat} {cs : List Value} (hk : 0 < k) (h : W.cells? base a k = some cs) : ∃ b off, a = ⟨b, off, none⟩ ∧ W.rangeAt b off cs := by
  obtain ⟨-, hl, hc⟩ := World.cells?_some h
  have h0 := hc 0 hk
  have h0' : ∃ v, cs[0]? = some v := by
    cases cs with
    | nil => simp at hl; omega
    | cons x r => exact ⟨x, rfl⟩
  obtain ⟨v0, hv0⟩ := h0'
  rw [hv0] at h0
  obtain ⟨b, off, spot⟩ := a
  have hspot : spot = none := by simpa [Addr.add] using World.cell?_spot h0
  subst hspot
  refine ⟨b, off, rfl, fun j v hv => ?_⟩
  have hj : j < k := by have := (List.getElem?_eq_some_iff.1 hv).1; omega
  have := hc j hj
  rw [Addr.add_mid] at this
  rw [this]; exact hv
set_option maxRecDepth 100000 in
theorem hs_of_trod {fuel : Nat} {cs : List Value} {x : DataW H × List MemPlace} (h : DataW.trod enc Try.prog W base (fun _ => true) true fuel 42 cs = some x) (hs : Small 42 x.1) :
    ∃ sp n cap ls, cs = [.slice sp n cap] ∧ HS W.heap.size W sp n cap ls ∧ ∀ X ∈ ls, Bts X := by
  rcases DataW.trod_slice Try.underlying42 h with ⟨rfl, -⟩ | ⟨a, len, cap, elems, rest, n, rfl, rfl, rfl, hb, hlc, hm, hlen, hel, hsp, -⟩
  · exact ⟨none, 0, 0, [], rfl, HS.nil0 _ _, fun X hX => by cases hX⟩
  · obtain ⟨hrl, -⟩ := hsp rfl
    have hr := hs ((elems.length + rest.length) * 32) (by simp [DataW.weights, Try.underlying42, bytes29])
    simp only [reachBytes] at hr
    have hstep : ∀ i, i < len → ∃ g off, ∃ X : List Int, a.add (i * 32) = ⟨g, off, none⟩ ∧ X.length = 32 ∧ Bts X ∧ W.rangeAt g off (by8 X) := fun i hi => by
      have h1 := hel i hi
      rw [cells29, List.getElem?_eq_getElem (by omega), Option.bind_eq_some_iff] at h1
      obtain ⟨cs, hcs, ht⟩ := h1
      obtain ⟨g, off, e, hR⟩ := cells_at (by omega) hcs
      obtain ⟨X, hX, bX, rfl⟩ := h_of_trod ht
      exact ⟨g, off, X, e, hX, bX, hR⟩
    by_cases h0 : 0 < len
    · obtain ⟨g, off, -, e, -⟩ := hstep 0 h0
      have ha : a = ⟨g, off, none⟩ := by simpa [Addr.add] using e
      subst ha
      obtain ⟨l, hl, hP⟩ := exists_list (P := fun i (X : List Int) => X.length = 32 ∧ Bts X ∧ W.rangeAt g (off + i * 32) (by8 X)) len (fun i hi => by
        obtain ⟨g', off', X, e', h1, ho⟩ := hstep i hi
        rw [Addr.add_mid] at e'
        cases e'
        exact ⟨X, h1, ho⟩)
      refine ⟨some ⟨g, off, none⟩, len, cap, l, rfl, ⟨show _ = _ by simp [hl], (fun e => by cases e), hlc, by unfold maxLen at hm; omega, by omega, fun _ => ⟨g, off, rfl, ?_, fun i X hX => (hP i X hX).2.2⟩, fun X hX => ?_⟩, fun X hX => ?_⟩
      · obtain ⟨X, hX⟩ : ∃ X, l[0]? = some X := ⟨l[0], List.getElem?_eq_getElem (by omega)⟩
        have h32 := (hP 0 X hX).1
        exact block_lt_of_cell ((hP 0 X hX).2.2 0 _ (by8_get (by omega)))
      · obtain ⟨i, hi⟩ := List.mem_iff_getElem?.1 hX
        exact (hP i X hi).1
      · obtain ⟨i, hi⟩ := List.mem_iff_getElem?.1 hX
        exact (hP i X hi).2.1
    · obtain rfl : len = 0 := by omega
      exact ⟨some a, 0, cap, [], rfl, ⟨rfl, (fun e => by cases e), by omega, by unfold maxLen at hm; omega, by omega, fun h => by omega, fun X hX => by cases hX⟩, fun X hX => by cases hX⟩
end
end Go.Proofs.Ytlebojbfcolkhaa
/- Layer state: what came in. -/
namespace Go.Proofs.Ytlebojbfcolkhaa
open Go.RowKit
set_option maxRecDepth 100000
set_option linter.unusedVariables false
set_option linter.unusedSimpArgs false

theorem cells22 : Try.prog.cellsOf 22 = 1 := by kernel_rfl
theorem cells26 : Try.prog.cellsOf 26 = 34 := by kernel_rfl
theorem cells27 : Try.prog.cellsOf 27 = 1088 := by kernel_rfl
theorem cells28 : Try.prog.cellsOf 28 = 1 := by kernel_rfl
theorem cells30s : Try.prog.cellsOf 30 = 1089 := by kernel_rfl
theorem cells44 : Try.prog.cellsOf 44 = 34 := by kernel_rfl
theorem cells53 : Try.prog.cellsOf 53 = 2 := by kernel_rfl
theorem cells55 : Try.prog.cellsOf 55 = 68 := by kernel_rfl
theorem cells69 : Try.prog.cellsOf 69 = 2 := by kernel_rfl
theorem bytes53 : Try.prog.bytesOf 53 = 16 := by kernel_rfl
theorem u64_wf {z : Int} (h : (Lit.int .u64 z).wf = true) : 0 ≤ z ∧ z < 18446744073709551616 := by
  have hmin : IntKind.u64.min = 0 := rfl
  have hmax : IntKind.u64.max = 18446744073709551615 := rfl
  simp only [Lit.wf, Bool.and_eq_true, decide_eq_true_eq] at h
  omega
theorem take_drop_cat {α : Type} (l : List α) (a b : Nat) : List.take a (List.drop b l) ++ List.drop (b + a) l = List.drop b l := by
  rw [← List.drop_drop, List.take_append_drop]
section
variable {H : Type} {enc : TypeId × Value → H} {W : World} {base : Nat}

theorem ou_of_trod (fuel : Nat) (cs : List Value) (x : DataW H × List MemPlace) (h : DataW.trod enc Try.prog W base (fun _ => true) true fuel 53 cs = some x) : ∃ o : Ou, cs = o.cells ∧ OuOK o := by
  obtain ⟨xs, n, rfl, rfl, hl, hxl, hf⟩ := DataW.trod_struct Try.underlying53 h
  rw [cells53] at hl
  simp at hxl
  match xs, hxl with
  | [x0, x1], _ =>
  have f0 := hf 0 _ rfl
  have f1 := hf 1 _ rfl
  simp [cells22] at f0 f1
  obtain ⟨a, e0, -, w0⟩ := DataW.trod_int Try.underlying22 f0
  obtain ⟨b, e1, -, w1⟩ := DataW.trod_int Try.underlying22 f1
  refine ⟨⟨a, b⟩, ?_, (u64_wf w0).1, (u64_wf w0).2, (u64_wf w1).1, (u64_wf w1).2⟩
  match cs, hl with
  | [c, d], _ =>
    simp at e0 e1
    subst e0; subst e1
    rfl
theorem ac_of_trod (fuel : Nat) (cs : List Value) (x : DataW H × List MemPlace) (h : DataW.trod enc Try.prog W base (fun _ => true) true fuel 26 cs = some x) : ∃ o : Ac, cs = o.cells ∧ AcOK o := by
  obtain ⟨xs, n, rfl, rfl, hl, hxl, hf⟩ := DataW.trod_struct Try.underlying26 h
  rw [cells26] at hl
  simp at hxl
  match xs, hxl with
  | [x0, x1, x2], _ =>
  have f0 := hf 0 _ rfl
  have f1 := hf 1 _ rfl
  have f2 := hf 2 _ rfl
  simp [cells22, cells29] at f0 f1 f2
  obtain ⟨a, e0, -, w0⟩ := DataW.trod_int Try.underlying22 f0
  obtain ⟨b, e1, -, w1⟩ := DataW.trod_int Try.underlying22 f1
  obtain ⟨X, hX, bX, e2⟩ := h_of_trod f2
  refine ⟨⟨a, b, X⟩, ?_, (u64_wf w0).1, (u64_wf w0).2, (u64_wf w1).1, (u64_wf w1).2, hX, bX⟩
  match cs, hl with
  | c :: d :: r, hl =>
    simp at e0 e1 e2 hl
    subst e0; subst e1
    rw [List.take_of_length_le (by omega)] at e2
    rw [e2]; rfl
/-- A list out of its parts. -/
theorem parts_of {α : Type} (P : α → Prop) (cells : α → List Value) (k : Nat) (hk : ∀ a, P a → (cells a).length = k) : ∀ (n : Nat) (cs : List Value), cs.length = n * k → (∀ i, i < n → ∃ a, List.take k (List.drop (i * k) cs) = cells a ∧ P a) → ∃ l : List α, l.length = n ∧ (∀ a ∈ l, P a) ∧ cs = (l.map cells).flatten
  | 0, cs, hl, _ => ⟨[], rfl, (fun a h => by cases h), by simpa using hl⟩
  | n + 1, cs, hl, h => by
    obtain ⟨a, ha, hp⟩ := h 0 (by omega)
    simp at ha
    obtain ⟨l, hl', hP, he⟩ := parts_of P cells k hk n (cs.drop k) (by rw [List.length_drop, hl, Nat.succ_mul]; omega) (fun i hi => by
      obtain ⟨b, hb, hpb⟩ := h (i + 1) (by omega)
      refine ⟨b, ?_, hpb⟩
      rw [List.drop_drop, ← hb, Nat.succ_mul, Nat.add_comm k])
    refine ⟨a :: l, by simp [hl'], fun b hb => ?_, ?_⟩
    · rcases List.mem_cons.1 hb with rfl | hb
      · exact hp
      · exact hP b hb
    · rw [List.map_cons, List.flatten_cons, ← he, ← ha, List.take_append_drop]
theorem acs_of_trod {fuel : Nat} {cs : List Value} {x : DataW H × List MemPlace} (h : DataW.trod enc Try.prog W base (fun _ => true) true fuel 27 cs = some x) : ∃ ps : List Ac, ps.length = 32 ∧ (∀ a ∈ ps, AcOK a) ∧ cs = acF ps := by
  obtain ⟨xs, m, -, hx, hl, hxs, hi⟩ := DataW.trod_array Try.underlying27 h
  rw [cells27] at hl
  obtain ⟨l, h1, h2, h3⟩ := parts_of AcOK Ac.cells 34 (fun a ha => Ac.len ha.l32) 32 cs hl (fun i hin => by
    have := hi i hin
    rw [List.getElem?_eq_getElem (by omega), cells26] at this
    exact ac_of_trod _ _ _ this)
  exact ⟨l, h1, h2, h3⟩
theorem os_of_trod {fuel : Nat} {cs : List Value} {x : DataW H × List MemPlace} (h : DataW.trod enc Try.prog W base (fun _ => true) true fuel 28 cs = some x) (hs : Small 28 x.1) :
    ∃ sp n cap os, cs = [.slice sp n cap] ∧ OS W.heap.size W sp n cap os ∧ n * 16 ≤ 140737488351232 := by
  rcases DataW.trod_slice Try.underlying28 h with ⟨rfl, -⟩ | ⟨a, len, cap, elems, rest, n, rfl, rfl, rfl, hb, hlc, hm, hlen, hel, hsp, -⟩
  · exact ⟨none, 0, 0, [], rfl, OS.nil0 _ _, by omega⟩
  · obtain ⟨hrl, -⟩ := hsp rfl
    have hr := hs ((elems.length + rest.length) * 16) (by simp [DataW.weights, Try.underlying28, bytes53])
    simp only [reachBytes] at hr
    have hstep : ∀ i, i < len → ∃ g off, ∃ X : Ou, a.add (i * 2) = ⟨g, off, none⟩ ∧ OuOK X ∧ W.rangeAt g off X.cells := fun i hi => by
      have h1 := hel i hi
      rw [cells53, List.getElem?_eq_getElem (by omega), Option.bind_eq_some_iff] at h1
      obtain ⟨cs, hcs, ht⟩ := h1
      obtain ⟨g, off, e, hR⟩ := cells_at (by omega) hcs
      obtain ⟨X, rfl, hX⟩ := ou_of_trod _ _ _ ht
      exact ⟨g, off, X, e, hX, hR⟩
    by_cases h0 : 0 < len
    · obtain ⟨g, off, -, e, -⟩ := hstep 0 h0
      have ha : a = ⟨g, off, none⟩ := by simpa [Addr.add] using e
      subst ha
      obtain ⟨l, hl, hP⟩ := exists_list (P := fun i (X : Ou) => OuOK X ∧ W.rangeAt g (off + i * 2) X.cells) len (fun i hi => by
        obtain ⟨g', off', X, e', h1, ho⟩ := hstep i hi
        rw [Addr.add_mid] at e'
        cases e'
        exact ⟨X, h1, ho⟩)
      refine ⟨some ⟨g, off, none⟩, len, cap, l, rfl, ⟨show _ = _ by simp [hl], (fun e => by cases e), hlc, by unfold maxLen at hm; omega, by omega, fun _ => ⟨g, off, rfl, ?_, fun i X hX => (hP i X hX).2⟩, fun X hX => ?_⟩, by omega⟩
      · obtain ⟨X, hX⟩ : ∃ X, l[0]? = some X := ⟨l[0], List.getElem?_eq_getElem (by omega)⟩
        exact block_lt_of_cell ((hP 0 X hX).2 0 _ rfl)
      · obtain ⟨i, hi⟩ := List.mem_iff_getElem?.1 hX
        exact (hP i X hi).1
    · obtain rfl : len = 0 := by omega
      exact ⟨some a, 0, cap, [], rfl, ⟨rfl, (fun e => by cases e), by omega, by unfold maxLen at hm; omega, by omega, fun h => by omega, fun X hX => by cases hX⟩, by omega⟩
/-- A STATE THAT CAME IN. -/
theorem open_state {b0 : Nat} {v : Value} {d : DataW H} {p : List MemPlace} {ts : List TypeId} {ds : List (DataW H)} {j : Nat}
    (hv : Value.okWide Try.prog W .any b0 30 v) (h : DataW.Trod enc Try.prog W base (fun _ => true) true 30 v d p)
    (hsz : (DataW.weightsEach Try.prog ts ds).all (· ≤ reachBytes) = true) (ht : ts[j]? = some 30) (hd : ds[j]? = some d) :
    ∃ ps sp n cap os, v = .agg (stA ps sp n cap) ∧ SS W.heap.size W ps sp n cap os ∧ n * 16 ≤ 140737488351232 := by
  unfold Value.okWide at hv
  rw [Try.underlying30] at hv
  obtain ⟨cs, rfl, hc, -⟩ := hv
  obtain ⟨fuel, hf⟩ := h
  have hs : Small 30 d := fun n hn => by
    have := List.all_eq_true.1 hsz n (DataW.weights_mem_each ht hd n hn)
    simpa using this
  obtain ⟨xs, n, -, hdx, hl, hxl, hff⟩ := DataW.trod_struct Try.underlying30 hf
  rw [cells30s] at hl
  simp at hxl
  match xs, hxl with
  | [x0, x1], _ =>
  have hd0 : d = _ := (Prod.ext_iff.1 hdx).1
  have f0 := hff 0 _ rfl
  have f1 := hff 1 _ rfl
  simp [cells27, cells28, Value.cells] at f0 f1
  obtain ⟨ps, hp1, hp2, e0⟩ := acs_of_trod f0
  have s1 : Small 28 x1.1 := fun m hm => hs m (by rw [hd0]; simp [DataW.weights, Try.underlying30, DataW.weightsEach, hm])
  obtain ⟨sp, m, cap, os, e1, hO, h16⟩ := os_of_trod f1 s1
  refine ⟨ps, sp, m, cap, os, ?_, ⟨Hid.mk' hp1, Hid.mk' hp2, hO⟩, h16⟩
  have hl' : cs.toList.length = 1089 := hl
  congr 1
  apply Array.toList_inj.1
  show cs.toList = stC ps sp m cap
  have e : cs.toList = List.take 1088 cs.toList ++ List.take 1 (List.drop 1088 cs.toList) := by
    rw [List.take_of_length_le (l := List.drop 1088 cs.toList) (by rw [List.length_drop]; omega), List.take_append_drop]
  rw [e, e0, e1]
  rfl
/-- TWO BYTES THAT CAME IN. -/
theorem open_two8 {b0 : Nat} {v : Value} {d : DataW H} {p : List MemPlace}
    (hv : Value.okWide Try.prog W .any b0 69 v) (h : DataW.Trod enc Try.prog W base (fun _ => true) true 69 v d p) : ∃ x y : Int, v = .agg #[.int .u8 x, .int .u8 y] ∧ (0 ≤ x ∧ x ≤ 255) ∧ (0 ≤ y ∧ y ≤ 255) := by
  unfold Value.okWide at hv
  rw [Try.underlying69] at hv
  obtain ⟨cs, rfl, hc, -⟩ := hv
  obtain ⟨fuel, hf⟩ := h
  obtain ⟨xs, m, -, hx, hl, hxs, hi⟩ := DataW.trod_array Try.underlying69 hf
  rw [cells69] at hl
  have hl' : cs.toList.length = 2 := hl
  have g0 := hi 0 (by omega)
  have g1 := hi 1 (by omega)
  rw [List.getElem?_eq_getElem (by omega), cells5] at g0 g1
  obtain ⟨a, e0, -, w0⟩ := DataW.trod_int Try.underlying5 g0
  obtain ⟨b, e1, -, w1⟩ := DataW.trod_int Try.underlying5 g1
  have b0 := bts_wf (L := [a]) (fun x hx => by simp at hx; subst hx; exact w0) a (by simp)
  have b1 := bts_wf (L := [b]) (fun x hx => by simp at hx; subst hx; exact w1) b (by simp)
  refine ⟨a, b, ?_, b0, b1⟩
  congr 1
  apply Array.toList_inj.1
  simp [Value.cells] at e0 e1
  generalize hq : cs.toList = L at *
  match L, hl' with
  | [c, d], _ =>
    rw [show c = .int .u8 a from by simpa using e0, show d = .int .u8 b from by simpa using e1]
end
end Go.Proofs.Ytlebojbfcolkhaa
