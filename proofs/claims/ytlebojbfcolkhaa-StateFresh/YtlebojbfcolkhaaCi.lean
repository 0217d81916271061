/- Layer collide: Path. -/
import Derived.Test.YtlebojbfcolkhaaCh
namespace Go.Proofs.Ytlebojbfcolkhaa
open Go.RowKit
set_option maxRecDepth 100000
set_option linter.unusedVariables false
set_option linter.unusedSimpArgs false

/-- Each entry's bytes lie behind those of the ones ahead of it. -/
def Asc (es : List En) : Prop := es.Pairwise fun e f => ∀ b off b' off', e.sp = some ⟨b, off, none⟩ → f.sp = some ⟨b', off', none⟩ → b < b'
/-- What the program's Path answers: all of it is new. -/
def PaF (i : Int) (X : List Int) (ls : List (List Int)) (w : World) (r : Ending) (w' : World) : Prop :=
  ∃ sp n cap es, r = .returned (.tuple #[.slice sp n cap, .int .i64 (foE i ls)]) ∧ ES w'.heap.size w' sp n cap es ∧ Hid (es.map En.bs = if FoOK i ls.length then pth i.toNat X ls else []) ∧ Hid (∀ e ∈ es, e.sm = shl e.bs) ∧ (∀ e ∈ es, ∀ b off, e.sp = some ⟨b, off, none⟩ → w.heap.size ≤ b) ∧ (∀ b off, sp = some ⟨b, off, none⟩ → w.heap.size ≤ b) ∧ Hid (Asc es) ∧ Below w.heap.size w w'
theorem CL.grownO {w w' : World} {g : Nat} {m : Int} {X : List Int} {row : Option Nat} (h : CL w g m X) (hg : w.grownBy w' row) (hne : row ≠ some g) : CL w' g m X := by
  cases row with
  | some k => exact h.grown hg (fun e => hne (by rw [e]))
  | none => exact h.grown (g' := g + 1) ⟨hg.os, hg.tape, hg.output, hg.size, fun k hk _ => hg.block k hk (by simp)⟩ (by omega)
theorem size64 : (Try.prog.info? 151).map (·.size) = some 34 := by kernel_rfl
theorem clm_sz {m : Int} {X : List Int} (hX : X.length = 32) : (clA m X).size = 34 := by simp [clA, clm_len hX]
theorem s64 {m : Int} {X : List Int} (h : X.length = 32) : (Try.prog.info? 151).map (·.size) = some (clA m X).size := by rw [clm_sz h]; exact size64
theorem clm_all (m : Int) (X : List Int) : (clA m X).all (·.oneCell') = true := all_oneCell_toArray (clm_one m X)
set_option maxRecDepth 100000 in
set_option maxHeartbeats 2000000 in
theorem path_ok (m : Nat) (X : List Int) (N : Nat) (sp : Option Addr) (n cap : Nat) (ls : List (List Int)) (w : World) (hX : X.length = 32) (bX : Bts X) (hS : HS N w sp n cap ls) (bS : ∀ Y ∈ ls, Bts Y) (h1 : n ≤ 16) (h2 : m < 2 ^ n) :
    Calls Try.prog 81 #[.int .i64 m, .agg (h8 X), .slice sp n cap] w (PaF m X ls w) := by
  obtain ⟨i0, hi, hz0, hz1, hz2⟩ := info_parts info54
  have A0 := Arr.new w 24 (h8 X)
  have hb0 := alloc_bel' w (.cells (h8 X) 24)
  have hm : m ≤ 9223372036854775807 := by have := pow16 h1; omega
  have hl := hS.len
  have hS := hS.here
  have hfo := fold_ok m X w.heap.size sp n cap ls _ hX (hS.below hb0) h1 h2
  have hfl := fo_len (i := m) (ps := ls) hX
  have hFo : FoOK (m : Int) ls.length := ⟨by rw [← hl.out]; exact h1, by omega, by rw [← hl.out]; omega⟩
  have hfe : Hid (foE (m : Int) ls = 0) := Hid.mk' (by unfold foE; rw [if_pos hFo])
  replace hFo := Hid.mk' hFo
  replace bS := Hid.mk' bS
  replace h2 := Hid.mk' h2
  replace hfo := Hid.mk' hfo
  go_enter Try.func81, Try.ntmps81
  go_upto_region 4 with (first
    | (refine ld24 (by rfl) _ (by rfl) w.heap.size 0 (by rfl) X hX A0.range ?_)
    | (go_at_call 44; go_must (refine hfo.out.mono ?_; rintro e w2 ⟨rfl, hb2⟩))
    | (refine st24n (by rfl) _ _ (by rfl) w2 w2.heap.size rfl (by rfl) _ (by rfl) (by rfl) hfl ?_))
  have A2 := ((A0.below hb2 (by simp)).alloc (.cells (h8 (fo m X ls)) 24))
  have hB2 := (hb0.trans (hb2.mono (by simp))).alloc (Nat.le_trans hb0.size hb2.size) (.cells (h8 (fo m X ls)) 24)
  generalize w2.alloc (.cells (h8 (fo m X ls)) 24) = W2 at *
  go_upto_region 5 with (first
    | (at_make; go_must (refine wpList_make_own _ (by rfl) (.const (.int .i64 0)) (.tmp 25) 63 (by rfl) w.heap.size 77 i0 (.agg (En.arr ⟨none, 0, 0, [], Z32⟩)) 33 Try.underlying63 hi hz0 hz1 .i64 .i64 _ n (by rfl) (by rfl) (by omega) (by rw [hz2]; omega) (by unfold maxLen; omega) hB2.size ?_; intro w3 hown3 hg3)))
  have A3 := A2.grown hg3 (by simp)
  have hB3 := hB2.grown hg3 hB2.size (by simp)
  have E3 : EO w.heap.size w3.heap.size w3 (.slice (some ⟨W2.heap.size, 0, none⟩) 0 n) [] := ⟨hown3, (fun e he => by cases he), (fun e he => by cases he)⟩
  have hs3 : W2.heap.size < w3.heap.size := own_lt hown3 rfl
  go_upto_region 6 with (first
    | (refine ld24 (by rfl) _ (by rfl) w.heap.size 0 (by rfl) X hX A3.range ?_)
    | (refine bdT (by rfl) 151 _ (by rfl) (by rfl) (built64 (m : Int) X hX) ?_)
    | (refine wpList_store_new w3 _ 151 (by rfl) 151 (.tmp 11) (.tmp 29) (by rfl) (clA m X) (by rfl) (by rfl) (s64 hX) (clm_sz hX).symm (clm_all _ _) ?_))
  have E4 := E3.below (alloc_bel' w3 (.cells (clA m X) 151))
  have C4 := CL.of_arr (Arr.new w3 151 (clA m X)) hX
  have hB4 := hB3.alloc hB3.size (.cells (clA m X) 151)
  have hs4 : w3.heap.size < (w3.alloc (.cells (clA m X) 151)).heap.size := by simp
  have hv4 : (Value.slice (some ⟨W2.heap.size, 0, none⟩) 0 n).ownBlock ≠ some w3.heap.size := by simp [Value.ownBlock]; omega
  generalize w3.alloc (.cells (clA m X) 151) = W4 at *
  clear A3 A2 A0
  go_upto_region 7 with fail
  go_loopw [10, 32] (fun v q wr => ∃ (j : Nat) (es : List En), q = .int .i64 (j : Int) ∧ j ≤ n ∧ es.length = j ∧ Below w.heap.size w wr ∧ EO w.heap.size w3.heap.size wr v es ∧ CL wr w3.heap.size ((m / 2 ^ j : Nat) : Int) (nd m X ls j) ∧ v.ownBlock ≠ some w3.heap.size ∧ Hid (es.map En.bs = (pth m X ls).take j) ∧ Hid (∀ e ∈ es, e.sm = shl e.bs) ∧ Hid (Asc es))
    (fun _ q _ => n - (intOf q).toNat)
  case atStart => exact ⟨0, [], rfl, by omega, rfl, hB4, E4, by simpa [nd] using C4, hv4, Hid.mk' (by simp), Hid.mk' (fun e he => by cases he), Hid.mk' List.Pairwise.nil⟩
  case round =>
    obtain ⟨j, es, rfl, hj, hel, hbl, hE, hC, hv, hbs, hsm, hasc⟩ := hrel
    have hws3 := hB3.size
    clear E4 C4 hB4 hs4 hv4 E3 hB3
    by_cases hlt : j < n
    · have hI : (j : Int) < n := by omega
      have hSr := hS.below hbl
      obtain ⟨g, off, rfl, hgN, hR⟩ := hSr.at0 (by omega)
      obtain ⟨Y, hY⟩ : ∃ Y, ls[j]? = some Y := ⟨ls[j]'(by rw [← hl.out]; exact hlt), List.getElem?_eq_getElem _⟩
      have hY32 := hS.l32 Y (List.mem_of_getElem? hY)
      have bY := bS.out Y (List.mem_of_getElem? hY)
      have hRY := hR j Y hY
      have hN32 := nd_len (m := m) (ls := ls) hX j
      have bN := nd_bts (m := m) (ls := ls) bX j
      have hnx := Hid.mk' (nd_succ (m := m) (X := X) hY)
      have hpx := Hid.mk' (pth_get (m := m) (X := X) hY)
      have hdv := Hid.mk' (div_succ m j)
      have hq : m / 2 ^ j ≤ 9223372036854775807 := Nat.le_trans (Nat.div_le_self _ _) hm
      replace hY := Hid.mk' hY
      obtain ⟨Xj, hXj⟩ : ∃ Xj, Xj = nd m X ls j := ⟨_, rfl⟩
      obtain ⟨q, hqe⟩ : ∃ q, q = m / 2 ^ j := ⟨_, rfl⟩
      rw [← hXj, ← hqe] at hC hnx hpx
      rw [← hXj] at hN32 bN
      rw [← hqe] at hdv hq
      clear hXj hqe
      have hgc := hC.lt
      have hEa := hE.below (alloc_bel' wr (.cells (h8 Y) 24))
      have hCa := hC.below (alloc_bel' wr (.cells (h8 Y) 24)) hgc
      have Ya := Arr.new wr 24 (h8 Y)
      have hbla := hbl.alloc hbl.size (.cells (h8 Y) 24)
      go_upto_region 9 with (first
        | (refine ld24 (by rfl) _ (by rfl) g (off + j * 32) (by rfl) Y hY32 hRY ?_)
        | (refine st24n (by rfl) _ _ (by rfl) wr wr.heap.size rfl (by rfl) Y (by rfl) (by rfl) hY32 ?_))
      have hsa : (wr.alloc (.cells (h8 Y) 24)).heap.size = wr.heap.size + 1 := by simp
      generalize wr.alloc (.cells (h8 Y) 24) = wa at *
      have hob := fun (k : Nat) hk => own_lt (b := k) hEa.own hk
      have hac := hCa.lt
      go_upto_region 10 with (first
        | (refine ld24 (by rfl) _ (by rfl) wr.heap.size 0 (by rfl) Y hY32 Ya.range ?_)
        | (go_at_call 99; go_must (refine (up_any w3.heap.size q Xj Y wa hCa hN32 hY32 bN bY hq).mono ?_; rintro e w5 ⟨sp5, cp5, rfl, hb5, hg5, hC5, hG5⟩; have hsh := shl_len (pb q Xj Y); have hE5 := (hEa.grown hG5 hv).below (alloc_bel' w5 (.cells (En.arr ⟨sp5, 65, cp5, pb q Xj Y, shl (pb q Xj Y)⟩) 77)); have hC6 := hC5.below (alloc_bel' w5 (.cells (En.arr ⟨sp5, 65, cp5, pb q Xj Y, shl (pb q Xj Y)⟩) 77)) hC5.lt; have hg5s := hG5.size; have hok5 : EnOK (w5.alloc (.cells (En.arr ⟨sp5, 65, cp5, pb q Xj Y, shl (pb q Xj Y)⟩) 77)).heap.size (w5.alloc (.cells (En.arr ⟨sp5, 65, cp5, pb q Xj Y, shl (pb q Xj Y)⟩) 77)) ⟨sp5, 65, cp5, pb q Xj Y, shl (pb q Xj Y)⟩ := (⟨(hb5.below (alloc_bel' w5 _)).mono (by simp), hsh⟩); have hbl5 := (hbla.grown hG5 (by omega) (fun k e => by have := Option.some.inj e; omega)).alloc (by omega) (.cells (En.arr ⟨sp5, 65, cp5, pb q Xj Y, shl (pb q Xj Y)⟩) 77)))
        | (refine bldE (by rfl) _ (by rfl) ⟨sp5, 65, cp5, pb q Xj Y, shl (pb q Xj Y)⟩ (by rfl) hsh ?_)
        | (at_builtin; go_must (refine appE (by rfl) (.tmp 36) (.tmp 39) (by rfl) w.heap.size w3.heap.size _ es ⟨sp5, 65, cp5, pb q Xj Y, shl (pb q Xj Y)⟩ (by rfl) hE5 w5.heap.size 1 (by rfl) (Arr.new w5 77 _) hok5 (apart hb5 (by omega) hg5 hob (by omega) hac (by simp)) (by omega) (by simp; omega) ?_; intro v' w6 hE6 hG6 hl6; have hC7 := hC6.grownO hG6 hv; have hbl7 := hbl5.grown hG6 (by simp; omega) (fun k e => own_ge hE.own k e))))
      go_wp2_with fail
      go_roundw
      case rel =>
        refine ⟨j + 1, _, by go_num, by omega, by simp [hel], hbl7, hE6, ?_, ?_, Hid.mk' ?_, Hid.mk' ?_, Hid.mk' ?_⟩
        · rw [hnx.out, hdv.out]; exact hC7
        · rcases hl6 with e | e
          · rw [e]; exact hv
          · rw [e]; simp; omega
        · rw [List.map_append, hbs.out, take_succ' hpx.out]; rfl
        · intro e he
          rcases List.mem_append.1 he with he | he
          · exact hsm.out e he
          · simp at he; subst he; rfl
        · refine List.pairwise_append.2 ⟨hasc.out, List.pairwise_singleton _ _, fun f hf g' hg' b off b' off' e1 e2 => ?_⟩
          simp at hg'; subst hg'
          have a1 := (hE.ap f hf b off e1).2.1
          have a2 := hg5 b' off' e2
          omega
      case measure => simp [intOf]; omega
    · obtain rfl : j = n := by omega
      have hI : ¬ (j : Int) < j := by omega
      obtain ⟨sp6, cp6, rfl, hES⟩ := hE.es (by omega)
      go_wp2_with fail
      go_ret2
      refine ⟨sp6, j, cp6, es, by rw [hfe.out]; rfl, by rw [← hel]; exact hES, Hid.mk' ?_, hsm, fun e he b off e1 => (hE.ap e he b off e1).1, fun b off e => own_ge hE.own b (by rw [e]; rfl), hasc, hbl⟩
      · rw [if_pos hFo.out, hbs.out, hl.out, ← pth_len m X ls, List.take_length]; simp
set_option maxRecDepth 100000 in
set_option maxHeartbeats 1000000 in
theorem path_no (i : Int) (X : List Int) (N : Nat) (sp : Option Addr) (n cap : Nat) (ls : List (List Int)) (w : World) (hX : X.length = 32) (hS : HS N w sp n cap ls) (h : ¬ FoOK i n) :
    Calls Try.prog 81 #[.int .i64 i, .agg (h8 X), .slice sp n cap] w (PaF i X ls w) := by
  have A0 := Arr.new w 24 (h8 X)
  have hb0 := alloc_bel' w (.cells (h8 X) 24)
  have hfo := fold_no i X sp n cap (w.alloc (.cells (h8 X) 24)) hX hS.small h
  have hl := hS.len.out
  rw [hl] at h
  have hfe : Hid (foE i ls = 2) := Hid.mk' (by unfold foE; rw [if_neg h])
  replace h := Hid.mk' h
  clear hl
  go_enter Try.func81, Try.ntmps81
  go_wp2_with (first
    | (refine ld24 (by rfl) _ (by rfl) w.heap.size 0 (by rfl) X hX A0.range ?_)
    | (go_at_call 44; go_must (refine hfo.mono ?_; rintro e w2 ⟨rfl, hb2⟩))
    | (refine st24n (by rfl) _ _ (by rfl) w2 w2.heap.size rfl (by rfl) Z32 (by rfl) (by rfl) Z32_len ?_))
  go_ret2
  have hB2 := (hb0.trans (hb2.mono (by simp))).alloc (Nat.le_trans hb0.size hb2.size) (.cells (h8 Z32) 24)
  exact ⟨none, 0, 0, [], by rw [hfe.out]; rfl, ES.nil0 _ _, Hid.mk' (by rw [if_neg h.out]; rfl), Hid.mk' (fun e he => by cases he), (fun e he => by cases he), (fun b off e => by cases e), Hid.mk' List.Pairwise.nil, hB2⟩
theorem path_any (i : Int) (X : List Int) (N : Nat) (sp : Option Addr) (n cap : Nat) (ls : List (List Int)) (w : World) (hX : X.length = 32) (bX : Bts X) (hS : HS N w sp n cap ls) (bS : ∀ Y ∈ ls, Bts Y) :
    Calls Try.prog 81 #[.int .i64 i, .agg (h8 X), .slice sp n cap] w (PaF i X ls w) := by
  by_cases h : FoOK i n
  · obtain ⟨h1, h2, h3⟩ := h
    obtain ⟨m, rfl⟩ : ∃ m : Nat, i = m := ⟨i.toNat, by omega⟩
    exact path_ok m X N sp n cap ls w hX bX hS bS h1 (by omega)
  · exact path_no i X N sp n cap ls w hX hS h
end Go.Proofs.Ytlebojbfcolkhaa
