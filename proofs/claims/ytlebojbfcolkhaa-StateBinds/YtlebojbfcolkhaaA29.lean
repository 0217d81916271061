/- Ql, Sn, Sy. -/
import Derived.Test.YtlebojbfcolkhaaA25
import Derived.Test.YtlebojbfcolkhaaQh
import Derived.WideWitness
import Derived.Test.YtlebojbfcolkhaaA37
/- Layer state: a state that may come in. -/
namespace Go.Proofs.Ytlebojbfcolkhaa
set_option linter.unusedSectionVars false
set_option maxHeartbeats 1000000
open Go.RowKit
set_option maxRecDepth 100000
set_option linter.unusedVariables false
set_option linter.unusedSimpArgs false

variable [DecidableEq Ac] [DecidableEq Ou]
def ts34 : List TypeId := 22 :: 22 :: List.replicate 32 5
theorem rep_get {α : Type} (l : List α) (hl : 0 < l.length) : ∀ (n i : Nat), i < n * l.length → (List.replicate n l).flatten[i]? = l[i % l.length]?
  | 0, i, h => by simp at h
  | n + 1, i, h => by
    rw [List.replicate_succ, List.flatten_cons]
    by_cases hi : i < l.length
    · rw [List.getElem?_append_left hi, Nat.mod_eq_of_lt hi]
    · rw [List.getElem?_append_right (by omega), rep_get l hl n (i - l.length) (by rw [Nat.succ_mul] at h; omega)]
      congr 1
      rw [Nat.mod_eq_sub_mod (a := i) (by omega)]
theorem cellTypes30 : Try.prog.cellTypes Try.prog.depth 30 = some ((List.replicate 32 ts34).flatten ++ [28]) := by kernel_rfl
theorem ok34 (w : World) : ∀ r, r < 34 → ∃ v u, za.cells[r]? = some v ∧ ts34[r]? = some u ∧ Cell.okWideB Try.prog w u v = true := by
  intro r hr
  match r, hr with
  | 0, _ => exact ⟨_, _, rfl, rfl, by kernel_rfl⟩
  | 1, _ => exact ⟨_, _, rfl, rfl, by kernel_rfl⟩
  | r + 2, hr =>
    have h1 : r < 32 := by omega
    refine ⟨.int .u8 0, 5, ?_, ?_, by kernel_rfl⟩
    · show (by8 Z32)[r]? = _
      rw [by8_get (by rw [Z32_len]; exact h1), bat_Z]
    · show (List.replicate 32 5)[r]? = _
      rw [List.getElem?_replicate, if_pos h1]
theorem acF_zs : acF zs = (List.replicate 32 za.cells).flatten := by
  unfold acF zs
  rw [List.map_replicate]
theorem okRow (w : World) : Cell.okWideRowB Try.prog w 30 (stA zs none 0 0) = true := by
  have hsz : (stA zs none 0 0).size = 1089 := stA_size zs_len (fun a ha => (zs_ok a ha).l32)
  have hl34 : za.cells.length = 34 := Ac.len Z32_len
  have ht34 : ts34.length = 34 := by simp [ts34]
  have hlt : ((List.replicate 32 ts34).flatten ++ [28]).length = 1089 := by simp [ht34]
  unfold Cell.okWideRowB
  rw [cellTypes30]
  simp only [hsz, hlt]
  rw [Bool.and_eq_true]
  refine ⟨rfl, List.all_eq_true.2 fun i hi => ?_⟩
  have hi : i < 1089 := by simpa using hi
  rw [Nat.mod_eq_of_lt hi]
  by_cases h : i < 1088
  · obtain ⟨v, u, hv, hu, hok⟩ := ok34 w (i % 34) (Nat.mod_lt _ (by omega))
    have e1 : (stA zs none 0 0)[i]? = some v := by
      have : (stA zs none 0 0)[i]? = (stC zs none 0 0)[i]? := by simp [stA]
      rw [this]
      unfold stC
      rw [acF_zs, List.getElem?_append_left (by simp [hl34]; omega), rep_get _ (by omega) 32 i (by rw [hl34]; omega), hl34]
      exact hv
    have e2 : ((List.replicate 32 ts34).flatten ++ [28])[i]? = some u := by
      rw [List.getElem?_append_left (by simp [ht34]; omega), rep_get _ (by omega) 32 i (by rw [ht34]; omega), ht34]
      exact hu
    rw [e1, e2]
    exact hok
  · obtain rfl : i = 1088 := by omega
    have e1 : (stA zs none 0 0)[1088]? = some (.slice none 0 0) := by
      have : (stA zs none 0 0)[1088]? = (stC zs none 0 0)[1088]? := by simp [stA]
      rw [this]
      unfold stC
      rw [acF_zs, List.getElem?_append_right (by simp [hl34])]
      simp [hl34]
    have e2 : ((List.replicate 32 ts34).flatten ++ [28])[1088]? = some 28 := by
      rw [List.getElem?_append_right (by simp [ht34])]
      simp [ht34]
    rw [e1, e2]
    have : Cell.okWideB Try.prog w 28 (.slice none 0 0) = true := by kernel_rfl
    exact this
theorem okState (w : World) : Value.okWideB Try.prog w 30 (.agg (stA zs none 0 0)) = true := by
  have hsz : (stA zs none 0 0).size = 1089 := stA_size zs_len (fun a ha => (zs_ok a ha).l32)
  unfold Value.okWideB
  rw [Try.underlying30]
  simp only [hsz, cells30s, okRow w]
  rfl
theorem okIn1 {P : Program} {w : World} {f : FuncId} {fn : Func} {t0 : TypeId} {v0 : Value} (hf : P.funcs[f]? = some fn) (hi : (P.inits.idxOf? f).isNone = true) (hb : (fn.body.isSome && !fn.ours && fn.nfree == 0) = true) (hp : fn.params = #[t0]) (h0 : Value.okWideB P w t0 v0 = true) : Input.okWideB P w f ⟨#[], #[v0], []⟩ = true := by
  unfold Input.okWideB
  simp only [hf, hp]
  rw [hi]
  simp only [Bool.and_eq_true] at hb
  simp [List.range_succ, h0, hb.1.1, hb.1.2, hb.2]
theorem okIn2 {P : Program} {w : World} {f : FuncId} {fn : Func} {t0 t1 : TypeId} {v0 v1 : Value} (hf : P.funcs[f]? = some fn) (hi : (P.inits.idxOf? f).isNone = true) (hb : (fn.body.isSome && !fn.ours && fn.nfree == 0) = true) (hp : fn.params = #[t0, t1]) (h0 : Value.okWideB P w t0 v0 = true) (h1 : Value.okWideB P w t1 v1 = true) : Input.okWideB P w f ⟨#[], #[v0, v1], []⟩ = true := by
  unfold Input.okWideB
  simp only [hf, hp]
  rw [hi]
  simp only [Bool.and_eq_true] at hb
  simp [List.range_succ, h0, h1, hb.1.1, hb.1.2, hb.2]
theorem okProves (w : World) : Input.okWideB Try.prog w 6 ⟨#[], #[.agg (stA zs none 0 0), .agg #[.int .u8 0, .int .u8 0]], []⟩ = true :=
  okIn2 Try.func6 (by kernel_rfl) (by kernel_rfl) Try.params6 (okState w) (by kernel_rfl)
end Go.Proofs.Ytlebojbfcolkhaa
/- Layer state: two states and a place that may come in. -/
namespace Go.Proofs.Ytlebojbfcolkhaa
set_option linter.unusedSectionVars false
set_option maxHeartbeats 1000000
open Go.RowKit
set_option maxRecDepth 100000
set_option linter.unusedVariables false
set_option linter.unusedSimpArgs false

variable [DecidableEq Ac] [DecidableEq Ou]
theorem okIn3 {P : Program} {w : World} {f : FuncId} {fn : Func} {t0 t1 t2 : TypeId} {v0 v1 v2 : Value} (hf : P.funcs[f]? = some fn) (hi : (P.inits.idxOf? f).isNone = true) (hb : (fn.body.isSome && !fn.ours && fn.nfree == 0) = true) (hp : fn.params = #[t0, t1, t2]) (h0 : Value.okWideB P w t0 v0 = true) (h1 : Value.okWideB P w t1 v1 = true) (h2 : Value.okWideB P w t2 v2 = true) : Input.okWideB P w f ⟨#[], #[v0, v1, v2], []⟩ = true := by
  unfold Input.okWideB
  simp only [hf, hp]
  rw [hi]
  simp only [Bool.and_eq_true] at hb
  simp [List.range_succ, h0, h1, h2, hb.1.1, hb.1.2, hb.2]
theorem okRoots (w : World) : Input.okWideB Try.prog w 3 ⟨#[], #[.agg (stA zs none 0 0), .agg (stA zs none 0 0), .int .i64 0], []⟩ = true :=
  okIn3 Try.func3 (by kernel_rfl) (by kernel_rfl) Try.params3 (okState w) (okState w) (by kernel_rfl)
end Go.Proofs.Ytlebojbfcolkhaa
/- Layer state: a claim that came in. -/
namespace Go.Proofs.Ytlebojbfcolkhaa
set_option linter.unusedSectionVars false
set_option maxHeartbeats 1000000
open Go.RowKit
set_option maxRecDepth 100000
set_option linter.unusedVariables false
set_option linter.unusedSimpArgs false

variable [DecidableEq Ac] [DecidableEq Ou]
theorem cells72 : Try.prog.cellsOf 72 = 102 := by kernel_rfl
section
variable {H : Type} {enc : TypeId × Value → H} {W : World} {base : Nat}
theorem wt_of_trodB {fuel : Nat} {cs : List Value} {x : DataW H × List MemPlace} (h : DataW.trod enc Try.prog W base (fun _ => true) true fuel 44 cs = some x) (hs : Small 44 x.1) :
    ∃ sp n cap ls o c, cs = wtC sp n cap o c ∧ WT W.heap.size W sp n cap ls o c ∧ Bts o ∧ ∀ X ∈ ls, Bts X := by
  obtain ⟨xs, n, rfl, hdx, hl, hxl, hff⟩ := DataW.trod_struct Try.underlying44 h
  rw [cells44] at hl
  simp at hxl
  match xs, hxl with
  | [x0, x1, x2], _ =>
  have hd0 : x.1 = _ := (Prod.ext_iff.1 hdx).1
  have f0 := hff 0 _ rfl
  have f1 := hff 1 _ rfl
  have f2 := hff 2 _ rfl
  simp [cells30, cells29, cells22] at f0 f1 f2
  have s0 : Small 42 x0.1 := fun m hm => hs m (by rw [hd0]; simp [DataW.weights, Try.underlying44, DataW.weightsEach, hm])
  obtain ⟨sp, m, cap, ls, e0, hH, bls⟩ := hs_of_trod f0 s0
  obtain ⟨o, ho, bo, e1⟩ := h_of_trod f1
  obtain ⟨c, e2, -, wc⟩ := DataW.trod_int Try.underlying22 f2
  refine ⟨sp, m, cap, ls, o, c, ?_, ⟨hH, ho, (u64_wf wc).1, (u64_wf wc).2⟩, bo, bls⟩
  unfold wtC
  rw [← e1, ← e2]
  rw [List.take_of_length_le (l := List.drop 33 cs) (by rw [List.length_drop]; omega)]
  rw [show List.take 32 cs.tail ++ List.drop 33 cs = List.drop 1 cs from by rw [← List.drop_one]; exact take_drop_cat cs 32 1]
  have := List.take_append_drop 1 cs
  rw [e0] at this
  exact this.symm
theorem cl_of_trod {fuel : Nat} {cs : List Value} {x : DataW H × List MemPlace} (h : DataW.trod enc Try.prog W base (fun _ => true) true fuel 72 cs = some x) (hs : Small 72 x.1) :
    ∃ a b R sp n cap ls o c, cs = clC a b R sp n cap o c ∧ AcOK a ∧ R.length = 32 ∧ WT W.heap.size W sp n cap ls o c ∧ Bts o ∧ ∀ X ∈ ls, Bts X := by
  obtain ⟨xs, n, rfl, hdx, hl, hxl, hff⟩ := DataW.trod_struct Try.underlying72 h
  rw [cells72] at hl
  simp at hxl
  match xs, hxl with
  | [x0, x1], _ =>
  have hd0 : x.1 = _ := (Prod.ext_iff.1 hdx).1
  have f0 := hff 0 _ rfl
  have f1 := hff 1 _ rfl
  simp [cells55, cells44] at f0 f1
  have s1 : Small 44 x1.1 := fun m hm => hs m (by rw [hd0]; simp [DataW.weights, Try.underlying72, DataW.weightsEach, hm])
  obtain ⟨a, b, R, e0, ha, hb, hR, bR⟩ := th_of_trod f0
  obtain ⟨sp, m, cap, ls, o, c, e1, hW, bo, bls⟩ := wt_of_trodB f1 s1
  refine ⟨a, b, R, sp, m, cap, ls, o, c, ?_, ha, hR, hW, bo, bls⟩
  unfold clC
  rw [← e0, ← e1]
  rw [List.take_of_length_le (l := List.drop 68 cs) (by rw [List.length_drop]; omega)]
  exact (List.take_append_drop 68 cs).symm
/-- A CLAIM THAT CAME IN. -/
theorem open_claim {b0 : Nat} {v : Value} {d : DataW H} {p : List MemPlace} {ts : List TypeId} {ds : List (DataW H)} {j : Nat}
    (hv : Value.okWide Try.prog W .any b0 72 v) (h : DataW.Trod enc Try.prog W base (fun _ => true) true 72 v d p)
    (hsz : (DataW.weightsEach Try.prog ts ds).all (· ≤ reachBytes) = true) (ht : ts[j]? = some 72) (hd : ds[j]? = some d) :
    ∃ a b R sp n cap ls o c, v = .agg (clA2 a b R sp n cap o c) ∧ AcOK a ∧ R.length = 32 ∧ WT W.heap.size W sp n cap ls o c ∧ Bts o ∧ ∀ X ∈ ls, Bts X := by
  unfold Value.okWide at hv
  rw [Try.underlying72] at hv
  obtain ⟨cs, rfl, hc, -⟩ := hv
  obtain ⟨fuel, hf⟩ := h
  obtain ⟨a, b, R, sp, n, cap, ls, o, c, e, h⟩ := cl_of_trod hf (fun m hm => by
    have := List.all_eq_true.1 hsz m (DataW.weights_mem_each ht hd m hm)
    simpa using this)
  refine ⟨a, b, R, sp, n, cap, ls, o, c, ?_, h⟩
  congr 1
  apply Array.toList_inj.1
  exact e
end
theorem u8_wf6 {z : Int} (h : (Lit.int .u8 z).wf = true) : 0 ≤ z ∧ z ≤ 255 := by
  have hmin : IntKind.u8.min = 0 := rfl
  have hmax : IntKind.u8.max = 255 := rfl
  simp only [Lit.wf, Bool.and_eq_true, decide_eq_true_eq] at h
  omega
end Go.Proofs.Ytlebojbfcolkhaa
