/- Layer rlp: slices.Insert, where there is no room; and all its roads together. -/
import Derived.Test.YtbjlmekafnpllabRg
namespace Go.Proofs.Ytbjlmekafnpllab
open Go.RowKit
set_option linter.unusedVariables false
set_option linter.unusedSimpArgs false

/-- Both copies of an insertion, in the other order. -/
theorem ins_row2 {C : Array Value} {L H : List Int} {n m i : Nat} (hn : n = L.length) (hm : m = H.length) (hi : i < n) (hs : n + m ≤ C.size) (hC : ∀ t, t < i → C[t]? = some (.int .u8 (bat L t))) :
    (splice (splice C.toList i (by8 H)) (i + m) (by8 (L.drop i))).length = C.size ∧ ∀ t, t < n + m → (splice (splice C.toList i (by8 H)) (i + m) (by8 (L.drop i)))[t]? = some (.int .u8 (bat (L.take i ++ H ++ L.drop i) t)) := by
  have hl2 : (by8 H).length = m := by rw [by8_len, ← hm]
  have hl1 : (by8 (L.drop i)).length = n - i := by rw [by8_len, List.length_drop, ← hn]
  have hfit1 : i + (by8 H).length ≤ C.toList.length := by rw [hl2]; simp; omega
  have hl3 : (splice C.toList i (by8 H)).length = C.size := by rw [length_splice _ _ _ hfit1]; simp
  have hfit2 : i + m + (by8 (L.drop i)).length ≤ (splice C.toList i (by8 H)).length := by rw [hl3, hl1]; omega
  refine ⟨by rw [length_splice _ _ _ hfit2, hl3], fun t ht => ?_⟩
  have hins := ins_get (L := L) (H := H) (i := i) (t := t) (by omega) (by omega)
  rw [← hm] at hins
  rw [← by8_get (by rw [ins_len (by omega), ← hn, ← hm]; exact ht), hins, splice_get _ _ _ hfit2, hl1, splice_get _ _ _ hfit1, hl2]
  by_cases h1 : t < i
  · rw [if_pos h1, if_pos (by omega), if_pos h1, Array.getElem?_toList, hC t h1, by8_get (by omega)]
  · rw [if_neg h1, if_neg h1]
    by_cases h2 : t < i + m
    · rw [if_pos h2, if_pos h2, if_pos h2]
    · rw [if_neg h2, if_pos (show t < i + m + (n - i) by omega), if_neg h2, ← by8_drop, List.getElem?_drop]
      congr 1; omega

set_option maxRecDepth 100000 in
set_option maxHeartbeats 4000000 in
/-- In the middle, where there is no room. -/
theorem insert_grow (g n cap i vb m c : Nat) (C HC : Array Value) (L H : List Int) (w : World) (hA : Arr w g 5 C) (hCs : C.size = cap) (hC : ∀ t, t < n → C[t]? = some (.int .u8 (bat L t))) (hn : Hid (n = L.length))
    (hV : Arr w vb 5 HC) (hVc : ∀ t, t < m → HC[t]? = some (.int .u8 (bat H t))) (hm : Hid (m = H.length)) (hm0 : 0 < m) (hi : i < n) (hnc : n ≤ cap) (hroom : cap < n + m) (hb : n + m ≤ 140737488355328) :
    Calls Try.prog 64 #[.slice (some ⟨g, 0, none⟩) n cap, .int .i64 i, .slice (some ⟨vb, 0, none⟩) m c] w fun e w' =>
      ∃ G, e = .returned (.slice (some ⟨w.heap.size, 0, none⟩) (n + m) G) ∧ n + m ≤ G ∧ G ≤ maxLen ∧ (∃ D, Arr w' w.heap.size 5 D ∧ D.size = G ∧ ∀ t, t < n + m → D[t]? = some (.int .u8 (bat (L.take i ++ H ++ L.drop i) t))) ∧ Below w.heap.size w w' := by
  have hAs := hA.lt
  have hVs := hV.lt
  have HC' := Hid.mk' hC
  have HV' := Hid.mk' hVc
  clear hC hVc
  obtain ⟨i0, hi0, hz0, hzs, hzb⟩ := info_parts info5
  have hz1 : ¬ ((m : Int) = 0) := by omega
  have hz2 : ((m : Int) == 0) = false := by simpa using hz1
  have hz3 : ¬ ((i : Int) = (n : Int)) := by omega
  have hz4 : ((i : Int) == (n : Int)) = false := by simpa using hz3
  have hz5 : (cap : Int) < (n : Int) + (m : Int) := by omega
  have hl1 : (by8 (L.drop i)).length = n - i := by rw [by8_len, List.length_drop, ← hn.out]
  have hl2 : (by8 H).length = m := by rw [by8_len, ← hm.out]
  have hl3 : (by8 (L.take i)).length = i := by rw [by8_len, List.length_take, ← hn.out]; omega
  have hold : (Builtin.firstCells i0.size i (.slice (some ⟨g, 0, none⟩) i cap)).run Try.prog w.drew = .ok (by8 (L.take i)).toArray w.drew := by
    rw [hzs]
    exact run_firstCells_some w.drew 1 i ⟨g, 0, none⟩ i cap (by8 (L.take i)) (by omega) (src_of (n := i) (fun t ht => by
      rw [Nat.zero_add, hA.drew.cell, HC'.out _ (by omega)]
      unfold bat
      rw [List.getD_eq_getElem?_getD, List.getD_eq_getElem?_getD, List.getElem?_take_of_lt ht]) (by rw [List.length_take, ← hn.out]; omega))
  have hik : i + (n + m - i) = n + m := by omega
  have hrz : ∀ ty, (Builtin.append_ #[23, 3] ty #[.slice (some ⟨g, 0, none⟩) i cap, .int .i64 ((n : Int) + (m : Int) - (i : Int))]).run Try.prog w =
      .ok (.slice (some ⟨w.heap.size, 0, none⟩) (n + m) (grownCap w (n + m) cap 5)) (w.drew.alloc (.cells ((by8 (L.take i)).toArray ++ Builtin.zeroCells (Value.int .u8 0).cells (n + m - i) ++ Builtin.zeroCells (Value.int .u8 0).cells (grownCap w (n + m) cap 5 - (n + m))) 5)) := fun ty => by
    have h := Lib.run_append_grow_zeros w 23 3 ty 5 i0 _ .i64 .i64 Try.underlying23 Try.underlying3 hi0 hz0 (some ⟨g, 0, none⟩) i cap (by8 (L.take i)) hold (n + m - i) (by omega) (by omega) (by omega) (by omega) (by rw [hzb]; omega) (by rw [hzb, hik]; exact growslice_fits hroom (by omega))
    rw [hik] at h
    rw [show (n : Int) + (m : Int) - (i : Int) = ((n + m - i : Nat) : Int) by omega]
    exact h
  have hGn : n + m ≤ grownCap w (n + m) cap 5 := grownCap_ge w _ _ _
  have hGm : grownCap w (n + m) cap 5 ≤ maxLen := grownCap_le_maxLen w (n + m) cap 5 (by unfold maxLen; omega)
  generalize grownCap w (n + m) cap 5 = G at *
  have hG63 : G ≤ 9223372036854775807 := hGm
  obtain ⟨ROW, hROW⟩ : ∃ ROW : Array Value, ROW = (by8 (L.take i)).toArray ++ Builtin.zeroCells (Value.int .u8 0).cells (n + m - i) ++ Builtin.zeroCells (Value.int .u8 0).cells (G - (n + m)) := ⟨_, rfl⟩
  rw [← hROW] at hrz
  have hRs : ROW.size = G := by
    rw [hROW]
    simp [Builtin.zeroCells, Value.cells, hl3]
    omega
  have hRc : Hid (∀ t, t < i → ROW[t]? = some (.int .u8 (bat L t))) := fun t ht => by
    rw [hROW, Array.append_assoc, Array.getElem?_append_left (by simp [hl3]; exact ht), List.getElem?_toArray, by8_get (by rw [List.length_take, ← hn.out]; omega)]
    unfold bat
    rw [List.getD_eq_getElem?_getD, List.getD_eq_getElem?_getD, List.getElem?_take_of_lt ht]
  clear hROW hold hik
  have hD0 := ins_row2 (C := ROW) hn.out hm.out hi (by omega) hRc.out
  obtain ⟨C1, hC1⟩ : ∃ C1 : Array Value, C1 = (splice ROW.toList i (by8 H)).toArray := ⟨_, rfl⟩
  have hC1s : C1.size = G := by rw [hC1, List.size_toArray, length_splice _ _ _ (by rw [hl2]; simp; omega)]; simpa using hRs
  have hcp1 : ∀ (W : World), Arr W w.heap.size 5 ROW → Arr W vb 5 HC → ∀ ty, (Builtin.copy_ #[23, 23] ty #[.slice (some ⟨w.heap.size, i, none⟩) (n + m - i) (G - i), .slice (some ⟨vb, 0, none⟩) m c]).run Try.prog W = .ok (goInt (by8 H).length) (W.setRow w.heap.size C1) := fun W hW1 hW2 ty => by
    rw [hC1]
    exact copy_run W ty w.heap.size i _ _ ⟨vb, 0, none⟩ _ _ ROW (by8 H) hW1 (by rw [hl2]; simp only [Nat.min_def]; split <;> omega) (src_of (n := m) (fun t ht => by rw [Nat.zero_add, hW2.cell, HV'.out _ ht]) hm.out) (by rw [hl2]; omega) (by8_one _)
  obtain ⟨C2, hC2⟩ : ∃ C2 : Array Value, C2 = (splice C1.toList (i + m) (by8 (L.drop i))).toArray := ⟨_, rfl⟩
  have hcp2 : ∀ (W : World), Arr W w.heap.size 5 C1 → Arr W g 5 C → ∀ ty, (Builtin.copy_ #[23, 23] ty #[.slice (some ⟨w.heap.size, i + m, none⟩) (n + m - (i + m)) (G - (i + m)), .slice (some ⟨g, i, none⟩) (n - i) (cap - i)]).run Try.prog W = .ok (goInt (by8 (L.drop i)).length) (W.setRow w.heap.size C2) := fun W hW1 hW2 ty => by
    rw [hC2]
    exact copy_run W ty w.heap.size (i + m) _ _ ⟨g, i, none⟩ _ _ C1 (by8 (L.drop i)) hW1 (by rw [hl1]; simp only [Nat.min_def]; split <;> omega) (src_of (n := n - i) (fun t ht => by rw [hW2.cell, HC'.out _ (by omega), bat_drop]) (by rw [List.length_drop, ← hn.out])) (by rw [hl1]; omega) (by8_one _)
  have hD : Hid (C2.size = G ∧ ∀ t, t < n + m → C2[t]? = some (.int .u8 (bat (L.take i ++ H ++ L.drop i) t))) := by
    rw [hC2, hC1]
    refine ⟨?_, fun t ht => ?_⟩
    · rw [List.size_toArray]; exact hD0.1.trans hRs
    · rw [List.getElem?_toArray]; exact hD0.2 t ht
  clear hC1 hC2 hl1 hl2 hl3 hC1s hD0
  have e1 : ∀ u, (Instr.slice 23 (.slice (some ⟨g, 0, none⟩) n cap) (some (.int .i64 (i : Int))) none none).run Try.prog u = .ok (.slice (some ⟨g, i, none⟩) (n - i) (cap - i)) u := fun u => by
    have := run_slice_l (some ⟨g, 0, none⟩) n cap i (by omega) u
    rw [spAt_lt (by omega)] at this
    exact this
  have e2 := run_slice_h (some ⟨g, 0, none⟩) n cap i (by omega)
  have e3 : ∀ u, (Instr.slice 23 (.slice (some ⟨w.heap.size, 0, none⟩) (n + m) G) (some (.int .i64 (i : Int))) none none).run Try.prog u = .ok (.slice (some ⟨w.heap.size, i, none⟩) (n + m - i) (G - i)) u := fun u => by
    have := run_slice_l (some ⟨w.heap.size, 0, none⟩) (n + m) G i (by omega) u
    rw [spAt_lt (by omega)] at this
    exact this
  have hw1 : IntKind.i64.wrap ((i : Int) + (m : Int)) = (i : Int) + (m : Int) := by rw [IntKind.wrap_i64]; omega
  have hb1 : (0 : Int) ≤ (i : Int) + (m : Int) := by omega
  have hin : (i : Int) ≤ n := by omega
  have htn : ((i : Int) + (m : Int)).toNat = i + m := by omega
  have hGi : ¬ (G = i) := by omega
  have hGim : ¬ (G = i + m) := by omega
  have hci : ¬ (cap = i) := by omega
  have hb3 : (i : Int) ≤ (n : Int) + (m : Int) := by omega
  have hb5 : i ≤ n := by omega
  have hR1 : Arr (w.drew.alloc (.cells ROW 5)) w.heap.size 5 ROW := Arr.new w.drew 5 ROW
  have hV1 : Arr (w.drew.alloc (.cells ROW 5)) vb 5 HC := hV.drew.alloc _
  have hA1 : Arr (w.drew.alloc (.cells ROW 5)) g 5 C := hA.drew.alloc _
  have hA2 : Arr ((w.alloc (.cells ROW 5)).drew.setRow w.heap.size C1).drew g 5 C := Arr.setRowOther (w := (w.alloc (.cells ROW 5)).drew) hA1 _ (by omega)
  have hR2 : Arr ((w.alloc (.cells ROW 5)).drew.setRow w.heap.size C1).drew w.heap.size 5 C1 := Arr.setRow (w := (w.alloc (.cells ROW 5)).drew) hR1 _
  go_enter Try.func64, Try.ntmps64
  go_wp2_with (first
    | (at_builtin; refine Lib.wpList_append_run _ rfl _ _ _ _ rfl _ _ rfl rfl _ _ (hrz _) ?_)
    | (refine wpList_copy_run _ rfl (.tmp 43) (.tmp 44) rfl _ _ rfl rfl (hcp1 _ hR1 hV1 _) ?_))
  go_region_law (refine step_copy_run rfl (.tmp 50) (.tmp 53) rfl _ _ (by simp [Act.eval, Act.put]) (by simp [Act.eval, Act.put]) (hcp2 _ hR2 hA2 _) ?_)
  go_wp2
  go_ret
  refine ⟨G, rfl, hGn, hGm, ⟨C2, hR2.setRow _, hD.out.1, hD.out.2⟩, ?_⟩
  exact below_row (below_row (((Below.refl _ _).alloc (Nat.le_refl _) _).drew) (Nat.le_refl _) _).drew (Nat.le_refl _) _

/-- All roads. -/
theorem insert_own (base n : Nat) (v : Value) (L : List Int) (u : Value) (m i b2 : Nat) (H : List Int) (w : World) (h : w.ownsRow base 5 1 v n (by8 L)) (hL : Bts L) (hbase : base ≤ w.heap.size)
    (hu : w.ownsRow b2 5 1 u m (by8 H)) (hH : Bts H) (hm : 0 < m) (hne : v.ownBlock = none ∨ v.ownBlock ≠ u.ownBlock) (hi : i ≤ n) (hb : n + m ≤ 140737488355328) :
    Calls Try.prog 64 #[v, .int .i64 i, u] w fun e w' => ∃ v', e = .returned v' ∧ w'.ownsRow base 5 1 v' (n + m) (by8 (L.take i ++ H ++ L.drop i)) ∧ Below base w w' := by
  obtain ⟨hnl, hv⟩ := own_arr h
  by_cases hin : i = n
  · subst hin
    obtain ⟨sp, c, rfl, hbs, -⟩ := own_bs hu hH (by omega)
    have e : L.take i ++ H ++ L.drop i = L ++ H := by rw [List.take_of_length_le (by rw [← hnl.out]; exact Nat.le_refl _), List.drop_eq_nil_of_le (by rw [← hnl.out]; exact Nat.le_refl _), List.append_nil]
    rw [e]
    exact insert_end base i v L sp m c H _ w h hL hbase hbs hm hb
  · obtain ⟨hml, ⟨rfl, h0⟩ | ⟨vb, c, HC, rfl, hvb, hVA, hVc, hVm, hVs, hVcells⟩⟩ := own_arr hu
    · omega
    · rcases hv with ⟨rfl, h0⟩ | ⟨g, cap, C, rfl, hg, hA, hc, hmx, hs, hC⟩
      · omega
      · have hgv : vb ≠ g := by
          intro e
          rcases hne with h1 | h1
          · simp [Value.ownBlock] at h1
          · exact h1 (by rw [e]; rfl)
        by_cases hroom : n + m ≤ cap
        · refine (insert_shift g n cap i vb m c C HC L H w hA hs hC hnl hVA hVcells hml hm (by omega) hroom hgv hmx hb).mono ?_
          rintro e w' ⟨rfl, ⟨D, hD, hDs, hDc⟩, hbl⟩
          exact ⟨_, rfl, own_of_arr hD hg (by rw [ins_len (by rw [← hnl.out]; exact hi), ← hnl.out, ← hml.out]) hroom hDs hmx hDc, hbl.mono hg⟩
        · refine (insert_grow g n cap i vb m c C HC L H w hA hs hC hnl hVA hVcells hml hm (by omega) hc (by omega) hb).mono ?_
          rintro e w' ⟨G, rfl, hG1, hG2, ⟨D, hD, hDs, hDc⟩, hbl⟩
          exact ⟨_, rfl, own_of_arr hD hbase (by rw [ins_len (by rw [← hnl.out]; exact hi), ← hnl.out, ← hml.out]) hG1 hDs hG2 hDc, hbl.mono hbase⟩
end Go.Proofs.Ytbjlmekafnpllab
