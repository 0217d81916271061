/- Cm, ZWf, QTp, QCm. -/
import Derived.Test.YtagebcbnenehfaaGreatX12
namespace Go.Proofs.YtagebcbnenehfaaGreat
open Go.RowKit
set_option maxRecDepth 100000
set_option linter.unusedVariables false
set_option linter.unusedSimpArgs false
set_option maxHeartbeats 40000000
section
open Go.ChangeAt Go.ChangeShapes Go.RowKit Go.WideShapes
theorem exists_list {α : Type} {P : Nat → α → Prop} : ∀ (n : Nat), (∀ i, i < n → ∃ a, P i a) → ∃ l : List α, l.length = n ∧ ∀ i a, l[i]? = some a → P i a
 | 0, _ => ⟨[], rfl, fun i a h => by simp at h⟩
 | n + 1, h => by
   obtain ⟨l, hl, hP⟩ := exists_list n (fun i hi => h i (by omega))
   obtain ⟨a, ha⟩ := h n (by omega)
   refine ⟨l ++ [a], by simp [hl], fun i b hb => ?_⟩
   by_cases hi : i < n
   · rw [List.getElem?_append_left (by omega)] at hb; exact hP i b hb
   · rw [List.getElem?_append_right (by omega)] at hb
     have : i - l.length = 0 := by have := (List.getElem?_eq_some_iff.1 hb).1; simp at this; omega
     rw [this] at hb
     simp at hb
     subst hb
     obtain rfl : i = n := by omega
     exact ha
def Small {H : Type} (t : TypeId) (d : DataW H) : Prop := ∀ n ∈ d.weights Tryz.prog t, n ≤ reachBytes
theorem bts_wf {L : List Int} (h : ∀ x ∈ L, (Lit.int .u8 x).wf = true) : Bts L := fun x hx => by
 have h1 := h x hx
 have hmin : IntKind.u8.min = 0 := rfl
 have hmax : IntKind.u8.max = 255 := rfl
 simp only [Lit.wf, Bool.and_eq_true, decide_eq_true_eq] at h1
 omega
theorem cells5 : Tryz.prog.cellsOf 5 = 1 := by kernel_rfl
theorem cells29 : Tryz.prog.cellsOf 30 = 32 := by kernel_rfl
section
variable {H : Type} {enc : TypeId × Value → H} {W : World} {base : Nat}
theorem h_of_trod {fuel : Nat} {cs : List Value} {x : DataW H × List MemPlace} (h : DataW.trod enc Tryz.prog W base (fun _ => true) true fuel 30 cs = some x) : ∃ X : List Int, X.length = 32 ∧ Bts X ∧ cs = by8 X := by
 obtain ⟨xs, m, -, hx, hl, hxs, hi⟩ := DataW.trod_array Tryz.underlying30 h
 rw [cells29] at hl
 have key : ∀ i, i < 32 → ∃ z, cs[i]? = some (.int .u8 z) ∧ (Lit.int .u8 z).wf = true := fun i hin => by
   have := hi i hin
   rw [List.getElem?_eq_getElem (by omega), cells5] at this
   obtain ⟨z, hz, -, hw⟩ := DataW.trod_int Tryz.underlying5 this
   refine ⟨z, ?_, hw⟩
   simp only [Nat.mul_one] at hz
   have h2 : (List.take 1 (List.drop i cs))[0]? = some (.int .u8 z) := by rw [hz]; rfl
   simpa using h2
 refine ⟨cs.map fun v => match v with | .int _ z => z | _ => 0, by simp [hl], bts_wf fun y hy => ?_, ?_⟩
 · obtain ⟨v, hv, rfl⟩ := List.mem_map.1 hy
   obtain ⟨i, hin, rfl⟩ := List.mem_iff_getElem.1 hv
   obtain ⟨z, hz, hw⟩ := key i (by omega)
   rw [List.getElem?_eq_getElem hin] at hz
   rw [Option.some.inj hz]; exact hw
 · apply List.ext_getElem?
   intro i
   by_cases hin : i < 32
   · obtain ⟨z, hz, -⟩ := key i hin
     simp [by8, hz]
   · rw [List.getElem?_eq_none (by omega), List.getElem?_eq_none (by rw [by8_len]; simp; omega)]
theorem cells_at {a : Addr} {k : Nat} {cs : List Value} (hk : 0 < k) (h : W.cells? base a k = some cs) : ∃ b off, a = ⟨b, off, none⟩ ∧ W.rangeAt b off cs := by
 obtain ⟨-, hl, hc⟩ := World.cells?_some h
 have h0 := hc 0 hk
 have h0' : ∃ v, cs[0]? = some v := by
   cases cs with
   | nil => simp at hl; omega
   | cons x r => exact ⟨x, rfl⟩
 obtain ⟨v0, hv0⟩ := h0'
 rw [hv0] at h0
 obtain ⟨b, off, spot⟩ := a
 have hspot : spot = none := by simpa [Addr.add] using World.cell?_spot h0
 subst hspot
 refine ⟨b, off, rfl, fun j v hv => ?_⟩
 have hj : j < k := by have := (List.getElem?_eq_some_iff.1 hv).1; omega
 have := hc j hj
 rw [Addr.add_mid] at this
 rw [this]; exact hv
end
end
section
open Go.ChangeAt Go.ChangeShapes Go.RowKit Go.WideShapes
theorem u64_wfV {z : Int} (h : (Lit.int .u64 z).wf = true) : U64 z := by
 have h1 : IntKind.u64.min = 0 := rfl
 have h2 : IntKind.u64.max = 18446744073709551615 := rfl
 simp only [Lit.wf, Bool.and_eq_true, decide_eq_true_eq] at h
 unfold U64
 omega
theorem u8_wf {z : Int} (h : (Lit.int .u8 z).wf = true) : 0 ≤ z ∧ z < 256 := by
 have h1 : IntKind.u8.min = 0 := rfl
 have h2 : IntKind.u8.max = 255 := rfl
 simp only [Lit.wf, Bool.and_eq_true, decide_eq_true_eq] at h
 omega
theorem getD_u {L : List Int} (h : ∀ y ∈ L, U64 y) (k : Nat) : U64 (L.getD k 0) := by
 rw [List.getD_eq_getElem?_getD]
 by_cases hk : k < L.length
 · rw [List.getElem?_eq_getElem hk]; exact h _ (List.getElem_mem hk)
 · rw [List.getElem?_eq_none (by omega)]; simp [U64]
theorem bytes26 : Tryz.prog.bytesOf 22 = 8 := by kernel_rfl
theorem cells26V : Tryz.prog.cellsOf 22 = 1 := by kernel_rfl
theorem cells41 : Tryz.prog.cellsOf 23 = 16 := by kernel_rfl
theorem cells42 : Tryz.prog.cellsOf 24 = 1 := by kernel_rfl
theorem cells43 : Tryz.prog.cellsOf 25 = 1 := by kernel_rfl
theorem cells45 : Tryz.prog.cellsOf 27 = 19 := by kernel_rfl
section
variable {H : Type} {enc : TypeId × Value → H} {W : World} {base : Nat}
theorem ws_of_trod {fuel : Nat} {cs : List Value} {x : DataW H × List MemPlace} (h : DataW.trod enc Tryz.prog W base (fun _ => true) true fuel 25 cs = some x) (hs : Small 25 x.1) :
   ∃ sp n cap L, cs = [.slice sp n cap] ∧ MS W.heap.size W sp n cap L ∧ ∀ k, U64 (L.getD k 0) := by
 rcases open_ints Tryz.underlying25 Tryz.underlying22 (by kernel_rfl) h with ⟨rfl, _⟩ | ⟨a, len, cap, zs, rfl, _, hl, hm, hz, rfl, hcell, hwz⟩
 · exact ⟨none, 0, 0, [], rfl, MS.nil0 _ _, fun k => by simp [U64]⟩
 · have hz' : zs.length = cap := by simpa using hz
   have hr := hs (((zs.take len).length + (zs.drop len).length) * 8) (by simp [DataW.weights, Tryz.underlying25, bytes26, lits])
   simp only [List.length_take, List.length_drop, reachBytes] at hr
   refine ⟨some a, len, cap, zs.take len, rfl, ⟨show _ = _ by simp; omega, (fun e => by cases e), hl, by unfold maxLen at hm; omega, by omega, fun h0 => ?_⟩, getD_u fun y hy => u64_wfV (hwz y (List.mem_of_mem_take hy))⟩
   obtain ⟨b, off, rfl, hc⟩ := ints_at hcell (by omega)
   refine ⟨b, off, rfl, block_lt_of_cell (hc 0 (by omega)), fun t ht => ?_⟩
   rw [hc t (by omega)]
   simp [List.getElem?_take_of_lt ht]
theorem rg_of_trod {fuel : Nat} {cs : List Value} {x : DataW H × List MemPlace} (h : DataW.trod enc Tryz.prog W base (fun _ => true) true fuel 23 cs = some x) : ∃ X : List Int, X.length = 16 ∧ (∀ y ∈ X, U64 y) ∧ cs = by64 X := by
 obtain ⟨xs, m, -, hx, hl, hxs, hi⟩ := DataW.trod_array Tryz.underlying23 h
 rw [cells41] at hl
 have key : ∀ i, i < 16 → ∃ z, cs[i]? = some (.int .u64 z) ∧ (Lit.int .u64 z).wf = true := fun i hin => by
   have := hi i hin
   rw [List.getElem?_eq_getElem (by omega), cells26V] at this
   obtain ⟨z, hz, -, hw⟩ := DataW.trod_int Tryz.underlying22 this
   refine ⟨z, ?_, hw⟩
   simp only [Nat.mul_one] at hz
   have h2 : (List.take 1 (List.drop i cs))[0]? = some (.int .u64 z) := by rw [hz]; rfl
   simpa using h2
 refine ⟨cs.map fun v => match v with | .int _ z => z | _ => 0, by simp [hl], fun y hy => ?_, ?_⟩
 · obtain ⟨v, hv, rfl⟩ := List.mem_map.1 hy
   obtain ⟨i, hin, rfl⟩ := List.mem_iff_getElem.1 hv
   obtain ⟨z, hz, hw⟩ := key i (by omega)
   rw [List.getElem?_eq_getElem hin] at hz
   rw [Option.some.inj hz]; exact u64_wfV hw
 · apply List.ext_getElem?
   intro i
   by_cases hin : i < 16
   · obtain ⟨z, hz, -⟩ := key i hin
     simp [by64, hz]
   · rw [List.getElem?_eq_none (by omega), List.getElem?_eq_none (by rw [by64_len]; simp; omega)]
theorem list_parts {cs : List Value} (hl : cs.length = 19) : cs = List.take 1 cs ++ (List.take 16 (List.drop 1 cs) ++ (List.take 1 (List.drop 17 cs) ++ List.take 1 (List.drop 18 cs))) := by
 rw [List.take_of_length_le (l := List.drop 18 cs) (by rw [List.length_drop]; omega), show List.drop 18 cs = List.drop 1 (List.drop 17 cs) by rw [List.drop_drop], List.take_append_drop, show List.drop 17 cs = List.drop 16 (List.drop 1 cs) by rw [List.drop_drop], List.take_append_drop, List.take_append_drop]
set_option maxRecDepth 100000 in
theorem mc_of_trod {fuel : Nat} {cs : List Value} {x : DataW H × List MemPlace} (h : DataW.trod enc Tryz.prog W base (fun _ => true) true fuel 27 cs = some x) (hs : Small 27 x.1) :
   ∃ m sp n cap, cs = mcL m (.slice sp n cap) ∧ m.ok ∧ MS W.heap.size W sp n cap m.me := by
 obtain ⟨xs, n, rfl, rfl, hl, hxl, hf⟩ := DataW.trod_struct Tryz.underlying27 h
 rw [cells45] at hl
 simp at hxl
 match xs, hxl with
 | [x0, x1, x2, x3], _ =>
 have f0 := hf 0 _ rfl
 have f1 := hf 1 _ rfl
 have f2 := hf 2 _ rfl
 have f3 := hf 3 _ rfl
 simp [cells26V, cells41, cells42, cells43] at f0 f1 f2 f3
 have s3 : Small 25 x3.1 := fun m hm => hs m (by simp [DataW.weights, Tryz.underlying27, DataW.weightsEach, hm])
 obtain ⟨pc, e0, -, w0⟩ := DataW.trod_int Tryz.underlying22 f0
 obtain ⟨X, hX, hU, e1⟩ := rg_of_trod f1
 obtain ⟨st, e2, -, w2⟩ := DataW.trod_int Tryz.underlying24 f2
 obtain ⟨sp, k, cap, L, e3, hM, hUm⟩ := ws_of_trod f3 s3
 refine ⟨⟨pc, X, st, L⟩, sp, k, cap, ?_, ⟨u64_wfV w0, hX, getD_u hU, u8_wf w2, hUm⟩, hM⟩
 rw [list_parts hl, e0, List.drop_one, e1, e2, e3]
 rfl
theorem open_machine {b0 : Nat} {v : Value} {d : DataW H} {p : List MemPlace} {ts : List TypeId} {ds : List (DataW H)} {j : Nat}
   (hv : Value.okWide Tryz.prog W .any b0 27 v) (h : DataW.Trod enc Tryz.prog W base (fun _ => true) true 27 v d p)
   (hsz : (DataW.weightsEach Tryz.prog ts ds).all (· ≤ reachBytes) = true) (ht : ts[j]? = some 27) (hd : ds[j]? = some d) :
   ∃ m C, v = .agg C ∧ MVV W m C := by
 unfold Value.okWide at hv
 rw [Tryz.underlying27] at hv
 obtain ⟨cs, rfl, hc, -⟩ := hv
 obtain ⟨fuel, hf⟩ := h
 have hs : Small 27 d := fun n hn => by
   have := List.all_eq_true.1 hsz n (DataW.weights_mem_each ht hd n hn)
   simpa using this
 obtain ⟨m, sp, n, cap, e, hok, hM⟩ := mc_of_trod (x := (d, p)) hf hs
 refine ⟨m, cs, rfl, ⟨sp, n, cap, ?_, hM⟩, hok⟩
 apply Array.toList_inj.1
 exact e
end
end
section
open Go.ChangeAt Go.ChangeShapes Go.RowKit Go.WideShapes
theorem bytes5 : Tryz.prog.bytesOf 5 = 1 := by kernel_rfl
end
section
open Go.ChangeAt Go.ChangeShapes Go.RowKit Go.WideShapes
theorem weights_all {H : Type} {P : Program} {e : TypeId} {l : List (DataW H)} {d : DataW H} (hd : d ∈ l) : ∀ n ∈ d.weights P e, n ∈ DataW.weightsAll P e l := by
 induction l with
 | nil => simp at hd
 | cons x r ih =>
   intro n hn
   rw [DataW.weightsAll]
   rcases List.mem_cons.1 hd with rfl | h
   · exact List.mem_append_left _ hn
   · exact List.mem_append_right _ (ih h n hn)
theorem cells38 : Tryz.prog.cellsOf 32 = 1 := by kernel_rfl
theorem cells54 : Tryz.prog.cellsOf 61 = 33 := by kernel_rfl
theorem bytes54 : Tryz.prog.bytesOf 61 = 56 := by kernel_rfl
section
variable {H : Type} {enc : TypeId × Value → H} {W : World} {base : Nat}
set_option maxRecDepth 100000 in
theorem bs_of_trod {fuel : Nat} {cs : List Value} {x : DataW H × List MemPlace} (h : DataW.trod enc Tryz.prog W base (fun _ => true) true fuel 32 cs = some x) (hs : Small 32 x.1) :
   ∃ sp n cap L, cs = [.slice sp n cap] ∧ BS W.heap.size W sp n cap L := by
 rcases open_ints Tryz.underlying32 Tryz.underlying5 (by kernel_rfl) h with ⟨rfl, _⟩ | ⟨a, len, cap, zs, rfl, _, hl, hm, hz, rfl, hcell, hwz⟩
 · exact ⟨none, 0, 0, [], rfl, BS.nil0 _ _⟩
 · have hz' : zs.length = cap := by simpa using hz
   have hr := hs ((zs.take len).length + (zs.drop len).length) (by simp [DataW.weights, Tryz.underlying32, bytes5, lits])
   simp only [List.length_take, List.length_drop, reachBytes] at hr
   refine ⟨some a, len, cap, zs.take len, rfl, ⟨show _ = _ by simp; omega, (fun e => by cases e), hl, by unfold maxLen at hm; omega, by omega, fun h0 => ?_, bts_wf fun y hy => hwz y (List.mem_of_mem_take hy)⟩⟩
   obtain ⟨b, off, rfl, hc⟩ := ints_at hcell (by omega)
   refine ⟨b, off, rfl, block_lt_of_cell (hc 0 (by omega)), fun t ht => ?_⟩
   rw [hc t (by omega)]
   simp [bat, List.getElem?_take_of_lt ht]
set_option maxRecDepth 100000 in
theorem en_of_trod (fuel : Nat) (cs : List Value) (x : DataW H × List MemPlace) (h : DataW.trod enc Tryz.prog W base (fun _ => true) true fuel 61 cs = some x) (hs : Small 61 x.1) :
   ∃ e : En, cs = e.cells ∧ EnOK W.heap.size W e := by
 obtain ⟨xs, n, rfl, rfl, hl, hxl, hf⟩ := DataW.trod_struct Tryz.underlying61 h
 rw [cells54] at hl
 simp at hxl
 match xs, hxl with
 | [x0, x1], _ =>
 have f0 := hf 0 _ rfl
 have f1 := hf 1 _ rfl
 simp [cells38, cells29] at f0 f1
 have s0 : Small 32 x0.1 := fun m hm => hs m (by simp [DataW.weights, Tryz.underlying61, DataW.weightsEach, hm])
 obtain ⟨sp, m, cap, L, e0, hB⟩ := bs_of_trod f0 s0
 obtain ⟨X, hX, -, e1⟩ := h_of_trod f1
 refine ⟨⟨sp, m, cap, L, X⟩, ?_, hB, hX⟩
 match cs, hl with
 | c :: r, hl =>
   simp at e0
   subst e0
   simp at e1 hl
   rw [List.take_of_length_le (by omega)] at e1
   rw [e1]; rfl
set_option maxRecDepth 100000 in
theorem es_of_trod {fuel : Nat} {cs : List Value} {x : DataW H × List MemPlace} (h : DataW.trod enc Tryz.prog W base (fun _ => true) true fuel 28 cs = some x) (hs : Small 28 x.1) :
   ∃ sq k cq es, cs = [.slice sq k cq] ∧ ES W.heap.size W sq k cq es := by
 rcases DataW.trod_slice Tryz.underlying28 h with ⟨rfl, -⟩ | ⟨a, len, cap, elems, rest, n, rfl, rfl, rfl, hb, hlc, hm, hlen, hel, hsp, -⟩
 · exact ⟨none, 0, 0, [], rfl, ES.nil0 _ _⟩
 · obtain ⟨hrl, -⟩ := hsp rfl
   have hr := hs ((elems.length + rest.length) * 56) (by simp [DataW.weights, Tryz.underlying28, bytes54])
   simp only [reachBytes] at hr
   have hw : ∀ e ∈ elems, Small 61 e.1 := fun e he m hm => hs m (by
     simp only [DataW.weights, Tryz.underlying28]
     exact List.mem_cons_of_mem _ (List.mem_append_left _ (weights_all (List.mem_map_of_mem he) m hm)))
   have hstep : ∀ i, i < len → ∃ g off, ∃ e : En, a.add (i * 33) = ⟨g, off, none⟩ ∧ W.rangeAt g off e.cells ∧ EnOK W.heap.size W e := fun i hi => by
     have h1 := hel i hi
     rw [cells54, List.getElem?_eq_getElem (by omega), Option.bind_eq_some_iff] at h1
     obtain ⟨cs, hcs, ht⟩ := h1
     obtain ⟨g, off, e, hR⟩ := cells_at (by omega) hcs
     obtain ⟨f, hf, ho⟩ := en_of_trod n cs _ ht (hw _ (List.getElem_mem _))
     subst hf
     exact ⟨g, off, f, e, hR, ho⟩
   by_cases h0 : 0 < len
   · obtain ⟨g, off, -, e, -⟩ := hstep 0 h0
     have ha : a = ⟨g, off, none⟩ := by simpa [Addr.add] using e
     subst ha
     obtain ⟨l, hl, hP⟩ := exists_list (P := fun i (f : En) => W.rangeAt g (off + i * 33) f.cells ∧ EnOK W.heap.size W f) len (fun i hi => by
       obtain ⟨g', off', f, e', h1, ho⟩ := hstep i hi
       rw [Addr.add_mid] at e'
       cases e'
       exact ⟨f, h1, ho⟩)
     refine ⟨some ⟨g, off, none⟩, len, cap, l, rfl, ⟨show _ = _ by simp [hl], (fun e => by cases e), hlc, by unfold maxLen at hm; omega, by omega, fun _ => ⟨g, off, rfl, ?_, fun i f hf => (hP i f hf).1⟩, fun f hf => ?_⟩⟩
     · obtain ⟨p, hp⟩ : ∃ p, l[0]? = some p := ⟨l[0], List.getElem?_eq_getElem (by omega)⟩
       exact block_lt_of_cell ((hP 0 p hp).1 0 _ rfl)
     · obtain ⟨i, hi⟩ := List.mem_iff_getElem?.1 hf
       exact (hP i f hi).2
   · obtain rfl : len = 0 := by omega
     exact ⟨some a, 0, cap, [], rfl, ⟨rfl, (fun e => by cases e), by omega, by unfold maxLen at hm; omega, by omega, fun h => by omega, fun f hf => by simp at hf⟩⟩
theorem open_entries {b0 : Nat} {v : Value} {d : DataW H} {p : List MemPlace} {ts : List TypeId} {ds : List (DataW H)} {j : Nat}
   (hv : Value.okWide Tryz.prog W .any b0 28 v) (h : DataW.Trod enc Tryz.prog W base (fun _ => true) true 28 v d p)
   (hsz : (DataW.weightsEach Tryz.prog ts ds).all (· ≤ reachBytes) = true) (ht : ts[j]? = some 28) (hd : ds[j]? = some d) :
   ∃ sq k cq es, v = .slice sq k cq ∧ ES W.heap.size W sq k cq es := by
 obtain ⟨a0, len0, cap0, rfl⟩ := okWide_slice Tryz.underlying28 hv
 obtain ⟨fuel, hf⟩ := h
 have hs : Small 28 d := fun n hn => by
   have := List.all_eq_true.1 hsz n (DataW.weights_mem_each ht hd n hn)
   simpa using this
 obtain ⟨sq, k, cq, fs, e, hi⟩ := es_of_trod (x := (d, p)) hf hs
 simp [Value.cells] at e
 obtain ⟨rfl, rfl, rfl⟩ := e
 exact ⟨_, _, _, fs, rfl, hi⟩
end
end
end Go.Proofs.YtagebcbnenehfaaGreat
