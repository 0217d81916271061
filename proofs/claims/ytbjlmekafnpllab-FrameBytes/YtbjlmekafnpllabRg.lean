/- Layer rlp: slices.Insert into a slice of bytes of one's own. -/
import Derived.Test.YtbjlmekafnpllabRf
import Derived.Lib.Overlaps
import Derived.Lib.AppendZerosOnto
import Derived.Laws.Externs
import Derived.Deep.RegionLaw
namespace Go.Proofs.Ytbjlmekafnpllab
open Go.RowKit
set_option linter.unusedVariables false
set_option linter.unusedSimpArgs false

theorem run_slice_l (sp : Option Addr) (n cap l : Nat) (hl : l ≤ n) (u : World) :
    (Instr.slice 23 (.slice sp n cap) (some (.int .i64 l)) none none).run Try.prog u = .ok (.slice (spAt sp l cap) (n - l) (cap - l)) u := by
  simp [Instr.slice, Instr.sliceBounds, Instr.sliceBound, asIntOf, run_underlying Try.underlying23, Try.sizeOf5, hl, go_sem, spAt]
theorem run_slice_h (sp : Option Addr) (n cap h : Nat) (hh : h ≤ cap) (u : World) :
    (Instr.slice 23 (.slice sp n cap) none (some (.int .i64 h)) none).run Try.prog u = .ok (.slice sp h cap) u := by
  simp [Instr.slice, Instr.sliceBounds, Instr.sliceBound, asIntOf, run_underlying Try.underlying23, Try.sizeOf5, hh, go_sem, spAt]
theorem spAt_lt {g l m : Nat} (h : l < m) : spAt (some ⟨g, 0, none⟩) l m = some ⟨g, l, none⟩ := by
  unfold spAt; rw [if_neg (by omega), Option.map_some, Addr.add_mid, Nat.zero_add]
theorem shape_arr {w : World} {g ty : Nat} {C : Array Value} (h : Arr w g ty C) : w.shape? g = some (ty, C.size) := by
  unfold Arr at h; simp [World.shape?, h]

set_option maxRecDepth 100000 in
set_option maxHeartbeats 1000000 in
/-- At the end. -/
theorem insert_end (base n : Nat) (v : Value) (L : List Int) (sp : Option Addr) (m c : Nat) (H : List Int) (N : Nat) (w : World) (h : w.ownsRow base 5 1 v n (by8 L)) (hL : Bts L) (hbase : base ≤ w.heap.size)
    (hS : BS N w sp m c H) (hm : 0 < m) (hb : n + m ≤ 140737488355328) :
    Calls Try.prog 64 #[v, .int .i64 n, .slice sp m c] w fun e w' => ∃ v', e = .returned v' ∧ w'.ownsRow base 5 1 v' (n + m) (by8 (L ++ H)) ∧ Below base w w' := by
  obtain ⟨sp0, cap0, rfl, hbs, -⟩ := own_bs h hL (by omega)
  have e1 := run_slice_l sp0 n cap0 n (Nat.le_refl _)
  have hz1 : ¬ ((m : Int) = 0) := by omega
  have hz2 : ((m : Int) == 0) = false := by simpa using hz1
  have hni := hS.nil
  have hsl := hS.sl
  have hl := hS.len
  go_enter Try.func64, Try.ntmps64
  go_wp2_with (at_builtin; go_must (refine append_bytes (by rfl) (.tmp 23) (.tmp 24) (by rfl) base _ n L (by rfl) h sp m c H (by rfl) hl.out hni hsl (by omega) hbase ?_; intro v1 w1 hown1 hg1))
  go_ret
  exact ⟨v1, rfl, hown1, (Below.refl _ _).grown hg1 hbase (fun j e => own_ge h j e)⟩

theorem splice_get {α : Type} (L : List α) (off : Nat) (cs : List α) (h : off + cs.length ≤ L.length) (t : Nat) :
    (splice L off cs)[t]? = if t < off then L[t]? else if t < off + cs.length then cs[t - off]? else L[t]? := by
  unfold splice
  have hl : (L.take off).length = off := by rw [List.length_take]; omega
  by_cases h1 : t < off
  · rw [if_pos h1, List.getElem?_append_left (by omega), List.getElem?_take_of_lt h1]
  · rw [if_neg h1, List.getElem?_append_right (by omega), hl]
    by_cases h2 : t < off + cs.length
    · rw [if_pos h2, List.getElem?_append_left (by omega)]
    · rw [if_neg h2, List.getElem?_append_right (by omega), List.getElem?_drop]
      congr 1; omega
theorem by8_take (L : List Int) (i : Nat) : (by8 L).take i = by8 (L.take i) := by simp [by8]
theorem by8_drop (L : List Int) (i : Nat) : (by8 L).drop i = by8 (L.drop i) := by simp [by8]
/-- What an insertion leaves: what stood ahead, what is put in, what stood behind. -/
theorem ins_get {L H : List Int} {i t : Nat} (hi : i ≤ L.length) (ht : t < L.length + H.length) :
    (by8 (L.take i ++ H ++ L.drop i))[t]? = if t < i then (by8 L)[t]? else if t < i + H.length then (by8 H)[t - i]? else (by8 L)[t - H.length]? := by
  have hl : (by8 (L.take i)).length = i := by rw [by8_len, List.length_take]; omega
  rw [by8_app, by8_app, List.append_assoc]
  by_cases h1 : t < i
  · rw [if_pos h1, List.getElem?_append_left (by omega), ← by8_take, List.getElem?_take_of_lt h1]
  · rw [if_neg h1, List.getElem?_append_right (by omega), hl]
    by_cases h2 : t < i + H.length
    · rw [if_pos h2, List.getElem?_append_left (by rw [by8_len]; omega)]
    · rw [if_neg h2, List.getElem?_append_right (by rw [by8_len]; omega), ← by8_drop, List.getElem?_drop, by8_len]
      congr 1; omega
theorem ins_len {L H : List Int} {i : Nat} (hi : i ≤ L.length) : (L.take i ++ H ++ L.drop i).length = L.length + H.length := by
  simp; omega

/-- copy into a row of one's own, as an equation. -/
theorem copy_run (w : World) (ty : TypeId) (g off dLen dCap : Nat) (a : Addr) (sLen sCap : Nat) (C : Array Value) (cs : List Value) (hA : Arr w g 5 C) (hn : cs.length = Nat.min sLen dLen)
    (hsrc : ∀ j v, cs[j]? = some v → w.cell? (a.add j) = some v) (hfit : off + cs.length ≤ C.size) (h1 : ∀ v ∈ cs, v.oneCell' = true) :
    (Builtin.copy_ #[23, 23] ty #[.slice (some ⟨g, off, none⟩) dLen dCap, .slice (some a) sLen sCap]).run Try.prog w = .ok (goInt cs.length) (w.setRow g (splice C.toList off cs).toArray) := by
  have h := run_copy_row (P := Try.prog) w 23 23 ty 5 g off dLen dCap a sLen sCap C 5 cs Try.underlying23 size5 hA hn hsrc hfit h1
  rw [h, splice, List.append_assoc]
theorem wpList_copy_run (w : World) {ops : Array Oper} {rest : List Oper} {o : Oper} {a : Act} {Q : Exit → Act → World → Prop} (hgd : o.guard = none) (d s : Operand)
    (ho : o.op = .call { callee := .builtin .copy, args := #[d, s], argTypes := #[23, 23] }) (v u : Value) (hd : a.eval d = v) (hs : a.eval s = u) {v' : Value} {w' : World}
    (hr : (Builtin.copy_ #[23, 23] o.type #[v, u]).run Try.prog w = .ok v' w') (h : wpList Try.prog ops Q rest (a.put o.dst v') w') : wpList Try.prog ops Q (o :: rest) a w :=
  wpList_plain hgd fun _ hK => by
    unfold Oper.wp
    simp [execOp, ho, resolve, invoke, builtin, hd, hs, hr, Result.andThen]
    exact hK _ _ h
theorem step_copy_run {ops : Array Oper} {o : Oper} {a : Act} {w : World} {K : Act → World → Prop} {Q : Exit → Act → World → Prop} {E : Prop} (hgd : o.guard = none) (d s : Operand)
    (ho : o.op = .call { callee := .builtin .copy, args := #[d, s], argTypes := #[23, 23] }) (v u : Value) (hd : a.eval d = v) (hs : a.eval s = u) {v' : Value} {w' : World}
    (hr : (Builtin.copy_ #[23, 23] o.type #[v, u]).run Try.prog w = .ok v' w') (h : K (a.put o.dst v') w') :
    if Region.wanted o (yielded ops a.tmps) = true then Oper.wp Try.prog o a w K Q else E := by
  have hw : Region.wanted o (yielded ops a.tmps) = true := by simp [Region.wanted, hgd]
  rw [if_pos hw]
  unfold Oper.wp
  simp [execOp, ho, resolve, invoke, builtin, hd, hs, hr, Result.andThen]
  exact h
theorem src_of {w : World} {g off n : Nat} {L : List Int} (h : ∀ t, t < n → w.cell? ⟨g, off + t, none⟩ = some (.int .u8 (bat L t))) (hn : n = L.length) : ∀ j v, (by8 L)[j]? = some v → w.cell? ((⟨g, off, none⟩ : Addr).add j) = some v := fun j v hj => by
  have hjl : j < L.length := by have := (List.getElem?_eq_some_iff.1 hj).1; rwa [by8_len] at this
  rw [Addr.add_mid, h j (by omega)]
  rw [by8_get hjl] at hj
  exact hj
theorem bat_drop (L : List Int) (i t : Nat) : bat (L.drop i) t = bat L (i + t) := by
  unfold bat; rw [List.getD_eq_getElem?_getD, List.getD_eq_getElem?_getD, List.getElem?_drop]
/-- Both copies of an insertion. -/
theorem ins_row {C : Array Value} {L H : List Int} {n m i : Nat} (hn : n = L.length) (hm : m = H.length) (hi : i < n) (hs : n + m ≤ C.size) (hC : ∀ t, t < i → C[t]? = some (.int .u8 (bat L t))) {t : Nat} (ht : t < n + m) :
    (splice (splice C.toList (i + m) (by8 (L.drop i))) i (by8 H))[t]? = some (.int .u8 (bat (L.take i ++ H ++ L.drop i) t)) := by
  have hl2 : (by8 H).length = m := by rw [by8_len, ← hm]
  have hl1 : (by8 (L.drop i)).length = n - i := by rw [by8_len, List.length_drop, ← hn]
  have hfit1 : i + m + (by8 (L.drop i)).length ≤ C.toList.length := by rw [hl1]; simp; omega
  have hins := ins_get (L := L) (H := H) (i := i) (t := t) (by omega) (by omega)
  have hl3 : (splice C.toList (i + m) (by8 (L.drop i))).length = C.size := by rw [length_splice _ _ _ hfit1]; simp
  rw [← hm] at hins
  rw [← by8_get (by rw [ins_len (by omega), ← hn, ← hm]; exact ht), hins, splice_get _ _ _ (by rw [hl3, hl2]; omega), hl2, splice_get _ _ _ hfit1, hl1]
  by_cases h1 : t < i
  · rw [if_pos h1, if_pos h1, if_pos (by omega), Array.getElem?_toList, hC t h1, by8_get (by omega)]
  · rw [if_neg h1, if_neg h1]
    by_cases h2 : t < i + m
    · rw [if_pos h2, if_pos h2]
    · rw [if_neg h2, if_neg h2, if_neg h2, if_pos (by omega), ← by8_drop, List.getElem?_drop]
      congr 1; omega
theorem ins_size {C : Array Value} {L H : List Int} {n m i : Nat} (hn : n = L.length) (hm : m = H.length) (hi : i < n) (hs : n + m ≤ C.size) : (splice (splice C.toList (i + m) (by8 (L.drop i))) i (by8 H)).length = C.size := by
  have hl2 : (by8 H).length = m := by rw [by8_len, ← hm]
  have hl1 : (by8 (L.drop i)).length = n - i := by rw [by8_len, List.length_drop, ← hn]
  have hfit1 : i + m + (by8 (L.drop i)).length ≤ C.toList.length := by rw [hl1]; simp; omega
  have hl3 : (splice C.toList (i + m) (by8 (L.drop i))).length = C.size := by rw [length_splice _ _ _ hfit1]; simp
  rw [length_splice _ _ _ (by rw [hl3, hl2]; omega), hl3]

set_option maxRecDepth 100000 in
set_option maxHeartbeats 4000000 in
/-- In the middle, where there is room. -/
theorem insert_shift (g n cap i vb m c : Nat) (C HC : Array Value) (L H : List Int) (w : World) (hA : Arr w g 5 C) (hCs : C.size = cap) (hC : ∀ t, t < n → C[t]? = some (.int .u8 (bat L t))) (hn : Hid (n = L.length))
    (hV : Arr w vb 5 HC) (hVc : ∀ t, t < m → HC[t]? = some (.int .u8 (bat H t))) (hm : Hid (m = H.length)) (hm0 : 0 < m) (hi : i < n) (hroom : n + m ≤ cap) (hne : vb ≠ g) (hcap : cap ≤ maxLen) (hb : n + m ≤ 140737488355328) :
    Calls Try.prog 64 #[.slice (some ⟨g, 0, none⟩) n cap, .int .i64 i, .slice (some ⟨vb, 0, none⟩) m c] w fun e w' =>
      e = .returned (.slice (some ⟨g, 0, none⟩) (n + m) cap) ∧ (∃ D, Arr w' g 5 D ∧ D.size = cap ∧ ∀ t, t < n + m → D[t]? = some (.int .u8 (bat (L.take i ++ H ++ L.drop i) t))) ∧ Below g w w' := by
  have hcap' : cap ≤ 9223372036854775807 := hcap
  have HC' := Hid.mk' hC
  have HV' := Hid.mk' hVc
  clear hC hVc
  have hz1 : ¬ ((m : Int) = 0) := by omega
  have hz2 : ((m : Int) == 0) = false := by simpa using hz1
  have hz3 : ¬ ((i : Int) = (n : Int)) := by omega
  have hz4 : ((i : Int) == (n : Int)) = false := by simpa using hz3
  have hz5 : ¬ ((cap : Int) < (n : Int) + (m : Int)) := by omega
  have e1 := run_slice_l (some ⟨g, 0, none⟩) n cap i (by omega)
  have e2 : ∀ u, (Instr.slice 23 (.slice (some ⟨g, 0, none⟩) n cap) none (some (.int .i64 ((n : Int) + (m : Int)))) none).run Try.prog u = .ok (.slice (some ⟨g, 0, none⟩) (n + m) cap) u := run_slice_h (some ⟨g, 0, none⟩) n cap (n + m) hroom
  have e3 : ∀ u, (Instr.slice 23 (.slice (some ⟨g, 0, none⟩) (n + m) cap) (some (.int .i64 ((i : Int) + (m : Int)))) none none).run Try.prog u = .ok (.slice (some ⟨g, i + m, none⟩) (n + m - (i + m)) (cap - (i + m))) u := fun u => by
    have := run_slice_l (some ⟨g, 0, none⟩) (n + m) cap (i + m) (by omega) u
    rw [spAt_lt (by omega)] at this
    exact this
  have e4 : ∀ u, (Instr.slice 23 (.slice (some ⟨g, 0, none⟩) (n + m) cap) (some (.int .i64 (i : Int))) none none).run Try.prog u = .ok (.slice (some ⟨g, i, none⟩) (n + m - i) (cap - i)) u := fun u => by
    have := run_slice_l (some ⟨g, 0, none⟩) (n + m) cap i (by omega) u
    rw [spAt_lt (by omega)] at this
    exact this
  have hov : ∀ lb cb, (callFunc 69 #[.slice (some ⟨vb, 0, none⟩) m c, .slice (some ⟨g, i + m, none⟩) lb cb]).run Try.prog w = .ok (.value (.bool false)) w := fun lb cb => by
    rw [run_callFunc_extern Try.func69 (by kernel_rfl) (by kernel_rfl) (by kernel_rfl) (e := Extern.SlicesOverlaps.overlaps #[23, 23] #[4]) (by kernel_rfl),
      Lib.run_overlaps_apart w 23 4 5 Try.underlying23 1 Try.sizeOf5 ⟨vb, 0, none⟩ ⟨g, i + m, none⟩ m c lb cb hne 5 5 HC.size C.size (shape_arr hV) (shape_arr hA) (by omega) (hV.frozen _) (hV.frozen _)]
    rfl
  have hl1 : (by8 (L.drop i)).length = n - i := by rw [by8_len, List.length_drop, ← hn.out]
  have hl2 : (by8 H).length = m := by rw [by8_len, ← hm.out]
  have hcp1 : ∀ ty, (Builtin.copy_ #[23, 23] ty #[.slice (some ⟨g, i + m, none⟩) (n + m - (i + m)) (cap - (i + m)), .slice (some ⟨g, i, none⟩) (n + m - i) (cap - i)]).run Try.prog w.drew = .ok (goInt (by8 (L.drop i)).length) (w.drew.setRow g (splice C.toList (i + m) (by8 (L.drop i))).toArray) := fun ty =>
    copy_run w.drew ty g (i + m) _ _ ⟨g, i, none⟩ _ _ C (by8 (L.drop i)) hA (by rw [hl1]; simp only [Nat.min_def]; split <;> omega) (src_of (n := n - i) (fun t ht => by rw [hA.drew.cell, HC'.out _ (by omega), bat_drop]) (by rw [List.length_drop, ← hn.out])) (by rw [hl1]; omega) (by8_one _)
  obtain ⟨C1, hC1⟩ : ∃ C1 : Array Value, C1 = (splice C.toList (i + m) (by8 (L.drop i))).toArray := ⟨_, rfl⟩
  have hC1s : C1.size = cap := by rw [hC1, List.size_toArray, length_splice _ _ _ (by rw [hl1]; simp; omega)]; simpa using hCs
  rw [← hC1] at hcp1
  have hA1 : Arr (w.drew.setRow g C1) g 5 C1 := hA.drew.setRow C1
  have hV1 : Arr (w.drew.setRow g C1) vb 5 HC := hV.drew.setRowOther C1 hne
  have hcp2 : ∀ (W : World), Arr W g 5 C1 → Arr W vb 5 HC → ∀ ty, (Builtin.copy_ #[23, 23] ty #[.slice (some ⟨g, i, none⟩) (n + m - i) (cap - i), .slice (some ⟨vb, 0, none⟩) m c]).run Try.prog W = .ok (goInt (by8 H).length) (W.setRow g (splice C1.toList i (by8 H)).toArray) := fun W hW1 hW2 ty =>
    copy_run W ty g i _ _ ⟨vb, 0, none⟩ _ _ C1 (by8 H) hW1 (by rw [hl2]; simp only [Nat.min_def]; split <;> omega) (src_of (n := m) (fun t ht => by rw [Nat.zero_add, hW2.cell, HV'.out _ ht]) hm.out) (by rw [hl2]; omega) (by8_one _)
  obtain ⟨C2, hC2⟩ : ∃ C2 : Array Value, C2 = (splice C1.toList i (by8 H)).toArray := ⟨_, rfl⟩
  rw [← hC2] at hcp2
  have hD : Hid (C2.size = cap ∧ ∀ t, t < n + m → C2[t]? = some (.int .u8 (bat (L.take i ++ H ++ L.drop i) t))) := by
    rw [hC2, hC1]
    refine ⟨?_, fun t ht => ?_⟩
    · rw [List.size_toArray]; exact (ins_size hn.out hm.out hi (by omega)).trans hCs
    · rw [List.getElem?_toArray]; exact ins_row hn.out hm.out hi (by omega) (fun t ht => HC'.out t (by omega)) ht
  have hw1 : IntKind.i64.wrap ((i : Int) + (m : Int)) = (i : Int) + (m : Int) := by rw [IntKind.wrap_i64]; omega
  have hb1 : (0 : Int) ≤ (i : Int) + (m : Int) := by omega
  have hin : (i : Int) ≤ n := by omega
  have htn : ((i : Int) + (m : Int)).toNat = i + m := by omega
  have hb2 : ¬ (cap = i + m) := by omega
  have hb3 : (i : Int) ≤ (n : Int) + (m : Int) := by omega
  have hb4 : ¬ (cap = i) := by omega
  have hb5 : i ≤ n := by omega
  clear hC1 hC2 hl1 hl2 hC1s
  go_enter Try.func64, Try.ntmps64
  go_wp2_with (simp only [hov])
  go_region_law (refine step_copy_run rfl (.tmp 73) (.tmp 76) rfl _ _ (by simp [Act.eval, Act.put]) (by simp [Act.eval, Act.put]) (hcp1 _) ?_)
  go_wp2_with (refine wpList_copy_run _ rfl (.tmp 80) (.tmp 81) rfl _ _ rfl rfl (hcp2 _ hA1 hV1 _) ?_)
  go_ret
  exact ⟨rfl, ⟨C2, hA1.setRow _, hD.out.1, hD.out.2⟩, below_row (below_row (Below.refl _ _).drew (Nat.le_refl _) _) (Nat.le_refl _) _⟩
end Go.Proofs.Ytbjlmekafnpllab
