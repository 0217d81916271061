/- Layer vm: what came in. -/
import Derived.Test.YtnjbmffgbgbjmaaX48
import Derived.Test.YtnjbmffgbgbjmaaX49
namespace Go.Proofs.Ytnjbmffgbgbjmaa
open Go.RowKit
set_option maxRecDepth 100000
set_option linter.unusedVariables false
set_option linter.unusedSimpArgs false

open Go.ChangeAt Go.ChangeShapes Go.RowKit Go.WideShapes
theorem u64_wf {z : Int} (h : (Lit.int .u64 z).wf = true) : U64 z := by
  have h1 : IntKind.u64.min = 0 := rfl
  have h2 : IntKind.u64.max = 18446744073709551615 := rfl
  simp only [Lit.wf, Bool.and_eq_true, decide_eq_true_eq] at h
  unfold U64
  omega
theorem u8_wf {z : Int} (h : (Lit.int .u8 z).wf = true) : 0 ≤ z ∧ z < 256 := by
  have h1 : IntKind.u8.min = 0 := rfl
  have h2 : IntKind.u8.max = 255 := rfl
  simp only [Lit.wf, Bool.and_eq_true, decide_eq_true_eq] at h
  omega
theorem u32_wf {z : Int} (h : (Lit.int .u32 z).wf = true) : 0 ≤ z ∧ z < 4294967296 := by
  have h1 : IntKind.u32.min = 0 := rfl
  have h2 : IntKind.u32.max = 4294967295 := rfl
  simp only [Lit.wf, Bool.and_eq_true, decide_eq_true_eq] at h
  omega
theorem getD_u {L : List Int} (h : ∀ y ∈ L, U64 y) (k : Nat) : U64 (L.getD k 0) := by
  rw [List.getD_eq_getElem?_getD]
  by_cases hk : k < L.length
  · rw [List.getElem?_eq_getElem hk]; exact h _ (List.getElem_mem hk)
  · rw [List.getElem?_eq_none (by omega)]; simp [U64]
theorem bytes26 : Try.prog.bytesOf 26 = 8 := by kernel_rfl
theorem cells26 : Try.prog.cellsOf 26 = 1 := by kernel_rfl
theorem cells22 : Try.prog.cellsOf 22 = 1 := by kernel_rfl
theorem cells23 : Try.prog.cellsOf 23 = 1 := by kernel_rfl
theorem cells41 : Try.prog.cellsOf 41 = 16 := by kernel_rfl
theorem cells42 : Try.prog.cellsOf 42 = 1 := by kernel_rfl
theorem cells43 : Try.prog.cellsOf 43 = 1 := by kernel_rfl
theorem cells45 : Try.prog.cellsOf 45 = 19 := by kernel_rfl
theorem cells25 : Try.prog.cellsOf 25 = 5 := by kernel_rfl
theorem bytes25 : Try.prog.bytesOf 25 = 8 := by kernel_rfl
section
variable {H : Type} {enc : TypeId × Value → H} {W : World} {base : Nat}
theorem ws_of_trod {fuel : Nat} {cs : List Value} {x : DataW H × List MemPlace} (h : DataW.trod enc Try.prog W base (fun _ => true) true fuel 43 cs = some x) (hs : Small 43 x.1) :
    ∃ sp n cap L, cs = [.slice sp n cap] ∧ MS W.heap.size W sp n cap L ∧ ∀ k, U64 (L.getD k 0) := by
  rcases open_ints Try.underlying43 Try.underlying26 (by kernel_rfl) h with ⟨rfl, _⟩ | ⟨a, len, cap, zs, rfl, _, hl, hm, hz, rfl, hcell, hwz⟩
  · exact ⟨none, 0, 0, [], rfl, MS.nil0 _ _, fun k => by simp [U64]⟩
  · have hz' : zs.length = cap := by simpa using hz
    have hr := hs (((zs.take len).length + (zs.drop len).length) * 8) (by simp [DataW.weights, Try.underlying43, bytes26, lits])
    simp only [List.length_take, List.length_drop, reachBytes] at hr
    refine ⟨some a, len, cap, zs.take len, rfl, ⟨show _ = _ by simp; omega, (fun e => by cases e), hl, by unfold maxLen at hm; omega, by omega, fun h0 => ?_⟩, getD_u fun y hy => u64_wf (hwz y (List.mem_of_mem_take hy))⟩
    obtain ⟨b, off, rfl, hc⟩ := ints_at hcell (by omega)
    refine ⟨b, off, rfl, block_lt_of_cell (hc 0 (by omega)), fun t ht => ?_⟩
    rw [hc t (by omega)]
    simp [List.getElem?_take_of_lt ht]
theorem rg_of_trod {fuel : Nat} {cs : List Value} {x : DataW H × List MemPlace} (h : DataW.trod enc Try.prog W base (fun _ => true) true fuel 41 cs = some x) : ∃ X : List Int, X.length = 16 ∧ (∀ y ∈ X, U64 y) ∧ cs = by64 X := by
  obtain ⟨xs, m, -, hx, hl, hxs, hi⟩ := DataW.trod_array Try.underlying41 h
  rw [cells41] at hl
  have key : ∀ i, i < 16 → ∃ z, cs[i]? = some (.int .u64 z) ∧ (Lit.int .u64 z).wf = true := fun i hin => by
    have := hi i hin
    rw [List.getElem?_eq_getElem (by omega), cells26] at this
    obtain ⟨z, hz, -, hw⟩ := DataW.trod_int Try.underlying26 this
    refine ⟨z, ?_, hw⟩
    simp only [Nat.mul_one] at hz
    have h2 : (List.take 1 (List.drop i cs))[0]? = some (.int .u64 z) := by rw [hz]; rfl
    simpa using h2
  refine ⟨cs.map fun v => match v with | .int _ z => z | _ => 0, by simp [hl], fun y hy => ?_, ?_⟩
  · obtain ⟨v, hv, rfl⟩ := List.mem_map.1 hy
    obtain ⟨i, hin, rfl⟩ := List.mem_iff_getElem.1 hv
    obtain ⟨z, hz, hw⟩ := key i (by omega)
    rw [List.getElem?_eq_getElem hin] at hz
    rw [Option.some.inj hz]; exact u64_wf hw
  · apply List.ext_getElem?
    intro i
    by_cases hin : i < 16
    · obtain ⟨z, hz, -⟩ := key i hin
      simp [by64, hz]
    · rw [List.getElem?_eq_none (by omega), List.getElem?_eq_none (by rw [by64_len]; simp; omega)]
theorem list_parts {cs : List Value} (hl : cs.length = 19) : cs = List.take 1 cs ++ (List.take 16 (List.drop 1 cs) ++ (List.take 1 (List.drop 17 cs) ++ List.take 1 (List.drop 18 cs))) := by
  rw [List.take_of_length_le (l := List.drop 18 cs) (by rw [List.length_drop]; omega), show List.drop 18 cs = List.drop 1 (List.drop 17 cs) by rw [List.drop_drop], List.take_append_drop, show List.drop 17 cs = List.drop 16 (List.drop 1 cs) by rw [List.drop_drop], List.take_append_drop, List.take_append_drop]
set_option maxRecDepth 100000 in
theorem mc_of_trod {fuel : Nat} {cs : List Value} {x : DataW H × List MemPlace} (h : DataW.trod enc Try.prog W base (fun _ => true) true fuel 45 cs = some x) (hs : Small 45 x.1) :
    ∃ m sp n cap, cs = mcL m (.slice sp n cap) ∧ m.ok ∧ MS W.heap.size W sp n cap m.me := by
  obtain ⟨xs, n, rfl, rfl, hl, hxl, hf⟩ := DataW.trod_struct Try.underlying45 h
  rw [cells45] at hl
  simp at hxl
  match xs, hxl with
  | [x0, x1, x2, x3], _ =>
  have f0 := hf 0 _ rfl
  have f1 := hf 1 _ rfl
  have f2 := hf 2 _ rfl
  have f3 := hf 3 _ rfl
  simp [cells26, cells41, cells42, cells43] at f0 f1 f2 f3
  have s3 : Small 43 x3.1 := fun m hm => hs m (by simp [DataW.weights, Try.underlying45, DataW.weightsEach, hm])
  obtain ⟨pc, e0, -, w0⟩ := DataW.trod_int Try.underlying26 f0
  obtain ⟨X, hX, hU, e1⟩ := rg_of_trod f1
  obtain ⟨st, e2, -, w2⟩ := DataW.trod_int Try.underlying42 f2
  obtain ⟨sp, k, cap, L, e3, hM, hUm⟩ := ws_of_trod f3 s3
  refine ⟨⟨pc, X, st, L⟩, sp, k, cap, ?_, ⟨u64_wf w0, hX, getD_u hU, u8_wf w2, hUm⟩, hM⟩
  rw [list_parts hl, e0, List.drop_one, e1, e2, e3]
  rfl
/-- A MACHINE THAT CAME IN. -/
theorem open_machine {b0 : Nat} {v : Value} {d : DataW H} {p : List MemPlace} {ts : List TypeId} {ds : List (DataW H)} {j : Nat}
    (hv : Value.okWide Try.prog W .any b0 45 v) (h : DataW.Trod enc Try.prog W base (fun _ => true) true 45 v d p)
    (hsz : (DataW.weightsEach Try.prog ts ds).all (· ≤ reachBytes) = true) (ht : ts[j]? = some 45) (hd : ds[j]? = some d) :
    ∃ m C, v = .agg C ∧ MV W m C := by
  unfold Value.okWide at hv
  rw [Try.underlying45] at hv
  obtain ⟨cs, rfl, hc, -⟩ := hv
  obtain ⟨fuel, hf⟩ := h
  have hs : Small 45 d := fun n hn => by
    have := List.all_eq_true.1 hsz n (DataW.weights_mem_each ht hd n hn)
    simpa using this
  obtain ⟨m, sp, n, cap, e, hok, hM⟩ := mc_of_trod (x := (d, p)) hf hs
  refine ⟨m, cs, rfl, ⟨sp, n, cap, ?_, hM⟩, hok⟩
  apply Array.toList_inj.1
  exact e
set_option maxRecDepth 100000 in
theorem cd_of_trod {fuel : Nat} {cs : List Value} {x : DataW H × List MemPlace} (h : DataW.trod enc Try.prog W base (fun _ => true) true fuel 25 cs = some x) :
    ∃ c : Cd, cs = c.arr.toList ∧ c.ok := by
  obtain ⟨xs, n, rfl, rfl, hl, hxl, hf⟩ := DataW.trod_struct Try.underlying25 h
  rw [cells25] at hl
  simp at hxl
  match xs, hxl with
  | [x0, x1, x2, x3, x4], _ =>
  have f0 := hf 0 _ rfl
  have f1 := hf 1 _ rfl
  have f2 := hf 2 _ rfl
  have f3 := hf 3 _ rfl
  have f4 := hf 4 _ rfl
  simp [cells22, cells5, cells23] at f0 f1 f2 f3 f4
  obtain ⟨o, e0, -, w0⟩ := DataW.trod_int Try.underlying22 f0
  obtain ⟨a, e1, -, w1⟩ := DataW.trod_int Try.underlying5 f1
  obtain ⟨b, e2, -, w2⟩ := DataW.trod_int Try.underlying5 f2
  obtain ⟨c, e3, -, w3⟩ := DataW.trod_int Try.underlying5 f3
  obtain ⟨i, e4, -, w4⟩ := DataW.trod_int Try.underlying23 f4
  refine ⟨⟨o, a, b, c, i⟩, ?_, u8_wf w0, u8_wf w1, u8_wf w2, u8_wf w3, u32_wf w4⟩
  match cs, hl with
  | [c0, c1, c2, c3, c4], _ =>
    simp at e0 e1 e2 e3 e4
    subst e0 e1 e2 e3 e4
    rfl
/-- AN INSTRUCTION THAT CAME IN. -/
theorem open_code {b0 : Nat} {v : Value} {d : DataW H} {p : List MemPlace}
    (hv : Value.okWide Try.prog W .any b0 25 v) (h : DataW.Trod enc Try.prog W base (fun _ => true) true 25 v d p) :
    ∃ c : Cd, v = .agg c.arr ∧ c.ok := by
  unfold Value.okWide at hv
  rw [Try.underlying25] at hv
  obtain ⟨cs, rfl, hc, -⟩ := hv
  obtain ⟨fuel, hf⟩ := h
  obtain ⟨c, e, hok⟩ := cd_of_trod hf
  refine ⟨c, ?_, hok⟩
  congr 1
  apply Array.toList_inj.1
  exact e
end
end Go.Proofs.Ytnjbmffgbgbjmaa
