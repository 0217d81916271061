/- Ao0, Ap, Aq, Ar, Bc. -/
import Derived.Test.YtndonaebdbbofaaX23
/- Layer mem: Parts, and the document's. -/
namespace Go.Proofs.Ytndonaebdbbofaa
open Go.RowKit
set_option maxRecDepth 100000
set_option linter.unusedVariables false
set_option linter.unusedSimpArgs false


/-- The bytes of a commitment. -/
def cmB (pc : Int) (rg : List Int) (s d : Int) (R : List Int) : List Int := (([2] ++ e8 pc) ++ rg.flatMap e8) ++ [s, d] ++ R
def cmt (pc : Int) (rg : List Int) (s d : Int) (R : List Int) : List Int := shl (cmB pc rg s d R)
/-- May a commitment be? -/
abbrev cOK (s d : Int) : Prop := 0 ≤ d ∧ d ≤ 12 ∧ s ≤ 2
def cmR (pc : Int) (rg : List Int) (s d : Int) (R : List Int) : List Int := if cOK s d then cmt pc rg s d R else Z32
def cmE (s d : Int) : Int := if cOK s d then 0 else 2
theorem cmR_len (pc : Int) (rg : List Int) (s d : Int) (R : List Int) : (cmR pc rg s d R).length = 32 := by
  unfold cmR; split
  · exact shl_len _
  · exact Z32_len
theorem flatMap_len (rg : List Int) : (rg.flatMap e8).length = 8 * rg.length := by
  induction rg with
  | nil => rfl
  | cons a r ih => simp only [List.flatMap_cons, List.length_append, e8_len, ih, List.length_cons]; omega
theorem cmB_len {pc : Int} {rg : List Int} {s d : Int} {R : List Int} (h : rg.length = 16) (hR : R.length = 32) : (cmB pc rg s d R).length = 171 := by
  unfold cmB
  rw [List.length_append, List.length_append, List.length_append, List.length_append, flatMap_len, e8_len, h, hR]
  rfl
/-- Registers, by value. -/
def rgA (rg : List Int) : Array Value := (by64 rg).toArray
theorem rgA_size {rg : List Int} (h : rg.length = 16) : (rgA rg).size = 16 := by simp [rgA, by64_len, h]
theorem rgA_at {rg : List Int} {k : Nat} (h : k < rg.length) : (rgA rg)[k]? = some (.int .u64 (rg.getD k 0)) := by simpa [rgA] using by64_get h
theorem size58 : (Try.prog.info? 58).map (·.size) = some 16 := by kernel_rfl
theorem index58 (rg : List Int) (h : rg.length = 16) (k : Nat) (hk : k < 16) (w : World) : (Instr.index 58 (.agg (rgA rg)) (.int .i64 k)).run Try.prog w = .ok (.int .u64 (rg.getD k 0)) w := by
  match rg, h with
  | [r0, r1, r2, r3, r4, r5, r6, r7, r8, r9, r10, r11, r12, r13, r14, r15], _ =>
  match k, hk with
  | 0, _ => rfl
  | 1, _ => rfl
  | 2, _ => rfl
  | 3, _ => rfl
  | 4, _ => rfl
  | 5, _ => rfl
  | 6, _ => rfl
  | 7, _ => rfl
  | 8, _ => rfl
  | 9, _ => rfl
  | 10, _ => rfl
  | 11, _ => rfl
  | 12, _ => rfl
  | 13, _ => rfl
  | 14, _ => rfl
  | 15, _ => rfl
  | (k + 16), hk => exact absurd hk (by omega)
theorem ld58 {ops : Array Oper} {rest : List Oper} {o : Oper} {a : Act} {w : World} {Q : Exit → Act → World → Prop} (hgd : o.guard = none) (x : Operand) (ho : o.op = .load 58 x)
    (g : Nat) (hx : a.eval x = .pointer (some ⟨g, 0, none⟩)) (C : Array Value) (hC : C.size = 16) (hA : Arr w g 58 C)
    (h : wpList Try.prog ops Q rest (a.put o.dst (.agg C)) w) : wpList Try.prog ops Q (o :: rest) a w :=
  wpList_load_row hgd 58 x ho g hx 58 C (0, 0) _ hA Try.underlying58 rfl (by rw [hC]; exact size58) h
theorem flatMap_take {rg : List Int} {j : Nat} (h : j < rg.length) : (rg.take (j + 1)).flatMap e8 = (rg.take j).flatMap e8 ++ e8 (rg.getD j 0) := by
  rw [List.take_add_one, List.getElem?_eq_getElem h, List.flatMap_append]
  simp [List.getD_eq_getElem?_getD, List.getElem?_eq_getElem h]
theorem sl_of_own {w : World} {base n : Nat} {v : Value} {L : List Int} (h : w.ownsRow base 5 1 v n (by8 L)) (h0 : 0 < n) : ∃ g cap, v = .slice (some ⟨g, 0, none⟩) n cap ∧ n = L.length ∧ n ≤ cap ∧ base ≤ g ∧ SlL w (some ⟨g, 0, none⟩) L := by
  obtain ⟨g, cap, e, hn, hc, hb, hB, -⟩ := own_slice h h0
  exact ⟨g, cap, e, hn.out, hc, hb, fun _ => ⟨g, 0, rfl, hB⟩⟩
theorem h8_sl {w : World} {g ty : Nat} {R : List Int} (h : Arr w g ty (h8 R)) : SlL w (some ⟨g, 0, none⟩) R := Arr.sl (L := R) h

set_option maxHeartbeats 1000000 in
theorem parts_no1 (pc : Int) (rg : List Int) (s d : Int) (R : List Int) (w : World) (hrg : rg.length = 16) (hR : R.length = 32) (hs : 0 ≤ s ∧ s < 256) (h : ¬ (0 ≤ d ∧ d ≤ 12)) : Calls Try.prog 26 #[.int .u64 pc, .agg (rgA rg), .int .u8 s, .int .i64 d, .agg (h8 R)] w fun e w' => e = .returned (.tuple #[.agg (h8 Z32), .int .i64 2]) ∧ Below w.heap.size w w' := by
  have hdd : Hid (decide (0 ≤ d ∧ d ≤ 12) = false) := Hid.mk' (decide_eq_false h)
  clear h

  have A0 := ((Arr.new w 58 (rgA rg)).alloc (.cells (h8 R) 43)).alloc (.cells (h8 Z32) 43)
  have A1 := (Arr.new (w.alloc (.cells (rgA rg) 58)) 43 (h8 R)).alloc (.cells (h8 Z32) 43)
  have A2 := Arr.new ((w.alloc (.cells (rgA rg) 58)).alloc (.cells (h8 R) 43)) 43 (h8 Z32)
  simp only [World.size_alloc] at A1 A2
  have hb0 : Below w.heap.size w (((w.alloc (.cells (rgA rg) 58)).alloc (.cells (h8 R) 43)).alloc (.cells (h8 Z32) 43)) := ((alloc_bel' w _).alloc (by simp) _).alloc (by simp; omega) _
  rw [h8_Z] at A0 A1 A2 hb0
  go_enter Try.func26, Try.ntmps26
  go_wp2_with (first
    | (go_at_call 45; go_must (refine (mayDepthM_any _ _).mono ?_; rintro e w1 ⟨rfl, h⟩; replace h := h.symm; subst h; rw [hdd.out]))
    | (refine st24 (by rfl) _ _ (by rfl) (w.heap.size + 1 + 1) Z32 Z32 (by rfl) (by rfl) Z32_len Z32_len A2 ?_))
  exact bodyPost_ret (v := .tuple #[.agg (h8 Z32), .int .i64 2]) (resP Try.results26 rfl rfl Z32_len (A2.setRow _)) rfl ⟨rfl, below_setRow hb0 (by omega) _⟩

set_option maxHeartbeats 1000000 in
theorem parts_no2 (pc : Int) (rg : List Int) (s d : Int) (R : List Int) (w : World) (hrg : rg.length = 16) (hR : R.length = 32) (hs : 0 ≤ s ∧ s < 256) (h : 0 ≤ d ∧ d ≤ 12) (hs2 : ¬ s ≤ 2) : Calls Try.prog 26 #[.int .u64 pc, .agg (rgA rg), .int .u8 s, .int .i64 d, .agg (h8 R)] w fun e w' => e = .returned (.tuple #[.agg (h8 Z32), .int .i64 2]) ∧ Below w.heap.size w w' := by
  have hdd : Hid (decide (0 ≤ d ∧ d ≤ 12) = true) := Hid.mk' (decide_eq_true h)
  have hs3 : 2 < s := by omega

  have A0 := ((Arr.new w 58 (rgA rg)).alloc (.cells (h8 R) 43)).alloc (.cells (h8 Z32) 43)
  have A1 := (Arr.new (w.alloc (.cells (rgA rg) 58)) 43 (h8 R)).alloc (.cells (h8 Z32) 43)
  have A2 := Arr.new ((w.alloc (.cells (rgA rg) 58)).alloc (.cells (h8 R) 43)) 43 (h8 Z32)
  simp only [World.size_alloc] at A1 A2
  have hb0 : Below w.heap.size w (((w.alloc (.cells (rgA rg) 58)).alloc (.cells (h8 R) 43)).alloc (.cells (h8 Z32) 43)) := ((alloc_bel' w _).alloc (by simp) _).alloc (by simp; omega) _
  rw [h8_Z] at A0 A1 A2 hb0
  go_enter Try.func26, Try.ntmps26
  go_wp2_with (first
    | (go_at_call 45; go_must (refine (mayDepthM_any _ _).mono ?_; rintro e w1 ⟨rfl, h⟩; replace h := h.symm; subst h; rw [hdd.out]))
    | (refine st24 (by rfl) _ _ (by rfl) (w.heap.size + 1 + 1) Z32 Z32 (by rfl) (by rfl) Z32_len Z32_len A2 ?_))
  exact bodyPost_ret (v := .tuple #[.agg (h8 Z32), .int .i64 2]) (resP Try.results26 rfl rfl Z32_len (A2.setRow _)) rfl ⟨rfl, below_setRow hb0 (by omega) _⟩

set_option maxHeartbeats 1000000 in
theorem refParts_no1 (pc : Int) (rg : List Int) (s d : Int) (R : List Int) (w : World) (hrg : rg.length = 16) (hR : R.length = 32) (hs : 0 ≤ s ∧ s < 256) (h : d < 0) : Calls Try.prog 27 #[.int .u64 pc, .agg (rgA rg), .int .u8 s, .int .i64 d, .agg (h8 R)] w fun e w' => e = .returned (.tuple #[.agg (h8 Z32), .int .i64 2]) ∧ Below w.heap.size w w' := by

  have A0 := ((Arr.new w 58 (rgA rg)).alloc (.cells (h8 R) 43)).alloc (.cells (h8 Z32) 43)
  have A1 := (Arr.new (w.alloc (.cells (rgA rg) 58)) 43 (h8 R)).alloc (.cells (h8 Z32) 43)
  have A2 := Arr.new ((w.alloc (.cells (rgA rg) 58)).alloc (.cells (h8 R) 43)) 43 (h8 Z32)
  simp only [World.size_alloc] at A1 A2
  have hb0 : Below w.heap.size w (((w.alloc (.cells (rgA rg) 58)).alloc (.cells (h8 R) 43)).alloc (.cells (h8 Z32) 43)) := ((alloc_bel' w _).alloc (by simp) _).alloc (by simp; omega) _
  rw [h8_Z] at A0 A1 A2 hb0
  go_enter Try.func27, Try.ntmps27
  go_wp2_with (first
    | (go_at_call 45; go_must (refine (mayDepthM_any _ _).mono ?_; rintro e w1 ⟨rfl, h⟩; replace h := h.symm; subst h; rw [hdd.out]))
    | (refine st24 (by rfl) _ _ (by rfl) (w.heap.size + 1 + 1) Z32 Z32 (by rfl) (by rfl) Z32_len Z32_len A2 ?_))
  exact bodyPost_ret (v := .tuple #[.agg (h8 Z32), .int .i64 2]) (resP Try.results27 rfl rfl Z32_len (A2.setRow _)) rfl ⟨rfl, below_setRow hb0 (by omega) _⟩
set_option maxHeartbeats 1000000 in
theorem refParts_no2 (pc : Int) (rg : List Int) (s d : Int) (R : List Int) (w : World) (hrg : rg.length = 16) (hR : R.length = 32) (hs : 0 ≤ s ∧ s < 256) (h : ¬ d < 0) (h2 : 12 < d) : Calls Try.prog 27 #[.int .u64 pc, .agg (rgA rg), .int .u8 s, .int .i64 d, .agg (h8 R)] w fun e w' => e = .returned (.tuple #[.agg (h8 Z32), .int .i64 2]) ∧ Below w.heap.size w w' := by

  have A0 := ((Arr.new w 58 (rgA rg)).alloc (.cells (h8 R) 43)).alloc (.cells (h8 Z32) 43)
  have A1 := (Arr.new (w.alloc (.cells (rgA rg) 58)) 43 (h8 R)).alloc (.cells (h8 Z32) 43)
  have A2 := Arr.new ((w.alloc (.cells (rgA rg) 58)).alloc (.cells (h8 R) 43)) 43 (h8 Z32)
  simp only [World.size_alloc] at A1 A2
  have hb0 : Below w.heap.size w (((w.alloc (.cells (rgA rg) 58)).alloc (.cells (h8 R) 43)).alloc (.cells (h8 Z32) 43)) := ((alloc_bel' w _).alloc (by simp) _).alloc (by simp; omega) _
  rw [h8_Z] at A0 A1 A2 hb0
  go_enter Try.func27, Try.ntmps27
  go_wp2_with (first
    | (go_at_call 45; go_must (refine (mayDepthM_any _ _).mono ?_; rintro e w1 ⟨rfl, h⟩; replace h := h.symm; subst h; rw [hdd.out]))
    | (refine st24 (by rfl) _ _ (by rfl) (w.heap.size + 1 + 1) Z32 Z32 (by rfl) (by rfl) Z32_len Z32_len A2 ?_))
  exact bodyPost_ret (v := .tuple #[.agg (h8 Z32), .int .i64 2]) (resP Try.results27 rfl rfl Z32_len (A2.setRow _)) rfl ⟨rfl, below_setRow hb0 (by omega) _⟩
set_option maxHeartbeats 1000000 in
theorem refParts_no3 (pc : Int) (rg : List Int) (s d : Int) (R : List Int) (w : World) (hrg : rg.length = 16) (hR : R.length = 32) (hs : 0 ≤ s ∧ s < 256) (h : ¬ d < 0) (h2 : ¬ 12 < d) (h3 : 2 < s) : Calls Try.prog 27 #[.int .u64 pc, .agg (rgA rg), .int .u8 s, .int .i64 d, .agg (h8 R)] w fun e w' => e = .returned (.tuple #[.agg (h8 Z32), .int .i64 2]) ∧ Below w.heap.size w w' := by

  have A0 := ((Arr.new w 58 (rgA rg)).alloc (.cells (h8 R) 43)).alloc (.cells (h8 Z32) 43)
  have A1 := (Arr.new (w.alloc (.cells (rgA rg) 58)) 43 (h8 R)).alloc (.cells (h8 Z32) 43)
  have A2 := Arr.new ((w.alloc (.cells (rgA rg) 58)).alloc (.cells (h8 R) 43)) 43 (h8 Z32)
  simp only [World.size_alloc] at A1 A2
  have hb0 : Below w.heap.size w (((w.alloc (.cells (rgA rg) 58)).alloc (.cells (h8 R) 43)).alloc (.cells (h8 Z32) 43)) := ((alloc_bel' w _).alloc (by simp) _).alloc (by simp; omega) _
  rw [h8_Z] at A0 A1 A2 hb0
  go_enter Try.func27, Try.ntmps27
  go_wp2_with (first
    | (go_at_call 45; go_must (refine (mayDepthM_any _ _).mono ?_; rintro e w1 ⟨rfl, h⟩; replace h := h.symm; subst h; rw [hdd.out]))
    | (refine st24 (by rfl) _ _ (by rfl) (w.heap.size + 1 + 1) Z32 Z32 (by rfl) (by rfl) Z32_len Z32_len A2 ?_))
  exact bodyPost_ret (v := .tuple #[.agg (h8 Z32), .int .i64 2]) (resP Try.results27 rfl rfl Z32_len (A2.setRow _)) rfl ⟨rfl, below_setRow hb0 (by omega) _⟩
end Go.Proofs.Ytndonaebdbbofaa
/- Layer mem: Parts, where it may be. -/
namespace Go.Proofs.Ytndonaebdbbofaa
open Go.RowKit
set_option maxRecDepth 100000
set_option linter.unusedVariables false
set_option linter.unusedSimpArgs false


set_option maxHeartbeats 2000000 in
theorem parts_ok (pc : Int) (rg : List Int) (s d : Int) (R : List Int) (w : World) (hrg : rg.length = 16) (hR : R.length = 32) (hs : 0 ≤ s ∧ s < 256) (hd : 0 ≤ d ∧ d ≤ 12) (hs2 : s ≤ 2) : Calls Try.prog 26 #[.int .u64 pc, .agg (rgA rg), .int .u8 s, .int .i64 d, .agg (h8 R)] w fun e w' => e = .returned (.tuple #[.agg (h8 (cmt pc rg s d R)), .int .i64 0]) ∧ Below w.heap.size w w' := by
  obtain ⟨i0, hi, hz0, hz1, hz2⟩ := info_parts info5
  have hdd : Hid (decide (0 ≤ d ∧ d ≤ 12) = true) := Hid.mk' (decide_eq_true hd)
  have hs3 : ¬ 2 < s := by omega
  have hd8 : d % 256 = d := by omega
  have hd8' : IntKind.u8.wrap d = d := by simp [IntKind.wrap, IntKind.bits, IntKind.signed]; omega
  have hlen := cmB_len (pc := pc) (s := s) (d := d) hrg hR
  have hsum := fun (sp : Option Addr) (c : Nat) (U : World) (h1 : sp = none → 171 = 0 ∧ c = 0) (h2 : SlL U sp (cmB pc rg s d R)) (h3 : 171 ≤ c) => sum_sl sp 171 c (cmB pc rg s d R) U hlen.symm h1 h2 h3 (by omega)
  simp only [sha_h8] at hsum
  have hC32 : (cmt pc rg s d R).length = 32 := shl_len _
  rw [show shl (cmB pc rg s d R) = cmt pc rg s d R from rfl] at hsum
  have hcm : Hid (([2] ++ e8 pc ++ rg.flatMap e8) ++ [s, d] ++ R = cmB pc rg s d R) := Hid.mk' rfl
  generalize cmt pc rg s d R = CC at *
  generalize cmB pc rg s d R = BB at *

  have A0 := ((Arr.new w 58 (rgA rg)).alloc (.cells (h8 R) 43)).alloc (.cells (h8 Z32) 43)
  have A1 := (Arr.new (w.alloc (.cells (rgA rg) 58)) 43 (h8 R)).alloc (.cells (h8 Z32) 43)
  have A2 := Arr.new ((w.alloc (.cells (rgA rg) 58)).alloc (.cells (h8 R) 43)) 43 (h8 Z32)
  simp only [World.size_alloc] at A1 A2
  have hb0 : Below w.heap.size w (((w.alloc (.cells (rgA rg) 58)).alloc (.cells (h8 R) 43)).alloc (.cells (h8 Z32) 43)) := ((alloc_bel' w _).alloc (by simp) _).alloc (by simp; omega) _
  rw [h8_Z] at A0 A1 A2 hb0
  have hrs := rgA_size hrg
  have hix := index58 rg hrg
  generalize hCg : rgA rg = CR at *
  clear hCg
  go_enter Try.func26, Try.ntmps26
  go_upto_region 3 with (go_at_call 45; go_must (refine (mayDepthM_any _ _).mono ?_; rintro e w1 ⟨rfl, h⟩; replace h := h.symm; subst h; rw [hdd.out]))
  generalize hV : World.alloc _ (.cells _ 43) = V at *
  have hVs : w.heap.size + 3 ≤ V.heap.size := by rw [← hV]; simp
  clear hV
  go_upto_region 5 with (first
    | (at_make; go_must (refine wpList_make_own _ (by rfl) (.const (.int .i64 0)) (.const (.int .i64 171)) 79 (by rfl) V.heap.size 5 i0 (.int .u8 0) 1 Try.underlying79 hi hz0 hz1 .i64 .i64 _ 171 (by rfl) (by rfl) (by omega) (by rw [hz2]; omega) (Nat.le_trans (by omega) maxLen_ge) (Nat.le_refl _) ?_; intro w1 hown1 hg1; have hown1 : w1.ownsRow V.heap.size 5 1 (.slice (some ⟨V.heap.size, 0, none⟩) 0 171) 0 (by8 []) := (by simpa [by8] using hown1); have hB1 : Below V.heap.size V w1 := (Below.refl _ _).grown hg1 (Nat.le_refl _) (by simp)))
    | (refine atA (.tmp 24) (.tmp 25) ?_; go_must (refine append_bytes (by rfl) (.tmp 24) (.tmp 25) (by rfl) V.heap.size _ 0 [] (by rfl) (hown1.alloc _) (some ⟨w1.heap.size, 0, none⟩) 1 1 [2] (by rfl) (by rfl) (fun h => by cases h) (Arr.sl (Arr.new w1 5 _)) (by omega) (by have := hB1.size; simp; omega) ?_; intro v2 w2 hown2 hg2; have hB2 : Below V.heap.size V w2 := (hB1.alloc hB1.size _).grown hg2 (by have := hB1.size; simp; omega) (fun k e => own_ge hown1 k e)))
    | (go_at_call 51; go_must (refine (appW_any V.heap.size _ _ _ pc _ hown2 hB2.size (by omega)).mono ?_; rintro e w3 ⟨v3, rfl, hown3, hb3⟩; have hB3 := hB2.trans hb3)))
  have hown3' : w3.ownsRow V.heap.size 5 1 v3 9 (by8 ([2] ++ e8 pc)) := by simpa using hown3
  clear hown3 hown2 hown1 hg1 hg2 hB1 hB2 hb3
  go_upto_region 6 with (refine ld58 (by rfl) (.tmp 6) (by rfl) w.heap.size (by rfl) CR hrs (A0.below hB3 A0.lt) ?_)
  go_loopw [12, 30] (fun v q wr => ∃ (j k : Nat), q = .int .i64 (j : Int) ∧ j ≤ 16 ∧ Hid (k = 9 + 8 * j) ∧ Below V.heap.size V wr ∧ wr.ownsRow V.heap.size 5 1 v k (by8 ([2] ++ e8 pc ++ (rg.take j).flatMap e8))) (fun _ q _ => 16 - (intOf q).toNat)
  case atStart => exact ⟨0, 9, rfl, by omega, Hid.mk' rfl, hB3, by simpa using hown3'⟩
  case round =>
    clear hown3' hB3
    obtain ⟨j, k, rfl, hj, hk, hbl, hown⟩ := hrel
    have hbs := hbl.size
    by_cases hlt : j < 16
    · have hI : (j : Int) < 16 := by omega
      replace hix := hix j hlt
      have hft : Hid ([2] ++ e8 pc ++ (rg.take (j + 1)).flatMap e8 = [2] ++ e8 pc ++ (rg.take j).flatMap e8 ++ e8 (rg.getD j 0)) := Hid.mk' (by rw [flatMap_take (by omega)]; simp only [List.append_assoc])
      generalize rg.getD j 0 = y at *
      have hk10 : k ≤ 1000 := by have := hk.out; omega
      generalize [2] ++ e8 pc ++ (rg.take j).flatMap e8 = B0 at *
      go_wp2_with (go_at_call 51; go_must (refine (appW_any V.heap.size k _ B0 y _ hown hbs hk10).mono ?_; rintro e w4 ⟨v4, rfl, hown4, hb4⟩))
      go_roundw
      case rel => exact ⟨j + 1, k + 8, by go_num, by omega, Hid.mk' (by have := hk.out; omega), hbl.trans hb4, by rw [hft.out]; exact hown4⟩
      case measure => simp [intOf]; omega
    · obtain rfl : j = 16 := by omega
      have hI : ¬ ((16 : Nat) : Int) < 16 := by omega
      obtain rfl : k = 137 := hk.out
      rw [List.take_of_length_le (by omega)] at hown
      generalize [2] ++ e8 pc ++ rg.flatMap e8 = B0 at *
      have Q1 := A1.below hbl A1.lt
      have Q2 := A2.below hbl A2.lt
      clear hk
      go_wp2_with (first
        | (refine atA (.tmp 37) (.tmp 41) ?_; go_must (refine append_bytes (by rfl) (.tmp 37) (.tmp 41) (by rfl) V.heap.size _ 137 B0 (by rfl) (hown.alloc _) (some ⟨wr.heap.size, 0, none⟩) 2 2 [s, d] (by rfl) (by rfl) (fun h => by cases h) (Arr.sl (Arr.new wr 5 _)) (by omega) (by simp; omega) ?_; intro v5 w5 hown5 hg5; have hB5 : Below V.heap.size V w5 := (hbl.alloc hbs _).grown hg5 (by simp; omega) (fun k e => own_ge hown k e); have Q15 := A1.below hB5 A1.lt; have Q25 := A2.below hB5 A2.lt))
        | (refine atA (.tmp 43) (.tmp 44) ?_; go_must (refine append_bytes (by rfl) (.tmp 43) (.tmp 44) (by rfl) V.heap.size _ 139 (B0 ++ [s, d]) (by rfl) hown5 (some ⟨w.heap.size + 1, 0, none⟩) 32 32 R (by rfl) hR.symm (fun h => by cases h) (h8_sl Q15) (by omega) hB5.size ?_; intro v6 w6 hown6 hg6; rw [hcm.out] at hown6; have hB6 : Below V.heap.size V w6 := hB5.grown hg6 hB5.size (fun k e => own_ge hown5 k e); have Q26 := A2.below hB6 A2.lt; obtain ⟨g6, c6, rfl, -, hc6, -, hSl6⟩ := sl_of_own hown6 (by omega)))
        | (go_at_call 52; go_must (refine (hsum _ _ _ (fun h => by cases h) hSl6 hc6).mono ?_; rintro e w7 ⟨rfl, hb7⟩; have Q27 := Q26.below hb7 Q26.lt; have hB7 := hB6.trans (hb7.mono hB6.size)))
        | (refine st24 (by rfl) _ _ (by rfl) (w.heap.size + 1 + 1) CC Z32 (by rfl) (by rfl) hC32 Z32_len Q27 ?_))
      exact bodyPost_ret (v := .tuple #[.agg (h8 CC), .int .i64 0]) (resP Try.results26 rfl rfl hC32 (Q27.setRow _)) rfl ⟨rfl, below_setRow (hb0.trans (hB7.mono (by omega))) (by omega) _⟩
end Go.Proofs.Ytndonaebdbbofaa
/- Layer mem: the document's Parts. -/
namespace Go.Proofs.Ytndonaebdbbofaa
open Go.RowKit
set_option maxRecDepth 100000
set_option linter.unusedVariables false
set_option linter.unusedSimpArgs false


set_option maxHeartbeats 2000000 in
theorem refParts_ok (pc : Int) (rg : List Int) (s d : Int) (R : List Int) (w : World) (hrg : rg.length = 16) (hR : R.length = 32) (hs : 0 ≤ s ∧ s < 256) (hd : 0 ≤ d ∧ d ≤ 12) (hs2 : s ≤ 2) : Calls Try.prog 27 #[.int .u64 pc, .agg (rgA rg), .int .u8 s, .int .i64 d, .agg (h8 R)] w fun e w' => e = .returned (.tuple #[.agg (h8 (cmt pc rg s d R)), .int .i64 0]) ∧ Below w.heap.size w w' := by
  have hs3 : ¬ 2 < s := by omega
  have hd1 : ¬ d < 0 := by omega
  have hd2 : ¬ 12 < d := by omega
  have hd8 : d % 256 = d := by omega
  have hd8' : IntKind.u8.wrap d = d := by simp [IntKind.wrap, IntKind.bits, IntKind.signed]; omega
  have hlen := cmB_len (pc := pc) (s := s) (d := d) hrg hR
  have hsum := fun (sp : Option Addr) (c : Nat) (U : World) (h1 : sp = none → 171 = 0 ∧ c = 0) (h2 : SlL U sp (cmB pc rg s d R)) => refSum_any sp 171 c (cmB pc rg s d R) U hlen.symm h1 h2 (by omega)
  simp only [sha_h8] at hsum
  have hC32 : (cmt pc rg s d R).length = 32 := shl_len _
  rw [show shl (cmB pc rg s d R) = cmt pc rg s d R from rfl] at hsum
  have hcm : Hid (([2] ++ e8 pc ++ rg.flatMap e8) ++ [s, d] ++ R = cmB pc rg s d R) := Hid.mk' rfl
  generalize cmt pc rg s d R = CC at *
  generalize cmB pc rg s d R = BB at *

  have A0 := ((Arr.new w 58 (rgA rg)).alloc (.cells (h8 R) 43)).alloc (.cells (h8 Z32) 43)
  have A1 := (Arr.new (w.alloc (.cells (rgA rg) 58)) 43 (h8 R)).alloc (.cells (h8 Z32) 43)
  have A2 := Arr.new ((w.alloc (.cells (rgA rg) 58)).alloc (.cells (h8 R) 43)) 43 (h8 Z32)
  simp only [World.size_alloc] at A1 A2
  have hb0 : Below w.heap.size w (((w.alloc (.cells (rgA rg) 58)).alloc (.cells (h8 R) 43)).alloc (.cells (h8 Z32) 43)) := ((alloc_bel' w _).alloc (by simp) _).alloc (by simp; omega) _
  rw [h8_Z] at A0 A1 A2 hb0
  have hat := fun (k : Nat) (hk : k < 16) => rgA_at (rg := rg) (k := k) (by omega)
  generalize hCg : rgA rg = CR at *
  clear hCg
  go_enter Try.func27, Try.ntmps27
  go_upto_region 3 with fail
  generalize hV : World.alloc _ (.cells _ 43) = V at *
  have hVs : w.heap.size + 3 ≤ V.heap.size := by rw [← hV]; simp
  clear hV
  have hlit : (V.alloc (.cells #[.int .u8 2] 5)).ownsRow V.heap.size 5 1 (.slice (some ⟨V.heap.size, 0, none⟩) 1 1) 1 (by8 [2]) := World.ownsRow_lit _ _ _ (Nat.le_refl _) (by unfold maxLen; omega) rfl
  have hBl := alloc_bel' V (.cells #[.int .u8 2] 5)
  go_upto_region 4 with (first
    | (go_at_call 53; go_must (refine (eight_any pc _).mono ?_; rintro e w2 ⟨v2, rfl, hown2, hb2⟩; obtain ⟨g2, c2, rfl, -, hc2, hgb2, hSl2⟩ := sl_of_own hown2 (by omega); have hB2 := hBl.trans (hb2.mono (by simp)); have hlit2 := own_same hlit (fun k hk => hb2.block k (own_lt hlit hk))))
    | (refine atA (.tmp 25) (.tmp 27) ?_; go_must (refine append_bytes (by rfl) (.tmp 25) (.tmp 27) (by rfl) V.heap.size _ 1 [2] (by rfl) hlit2 (some ⟨g2, 0, none⟩) 8 c2 (e8 pc) (by rfl) (by rw [e8_len]) (fun h => by cases h) hSl2 (by omega) hB2.size ?_; intro v3 w3 hown3 hg3; have hB3 : Below V.heap.size V w3 := hB2.grown hg3 hB2.size (fun k e => own_ge hlit2 k e))))
  clear hlit hBl hlit2 hown2 hb2 hSl2 hB2 hg3
  go_wp2_with fail
  go_loopw [12, 13] (fun v q wr => ∃ (j k : Nat), q = .int .i64 (j : Int) ∧ j ≤ 16 ∧ Hid (k = 9 + 8 * j) ∧ Below V.heap.size V wr ∧ wr.ownsRow V.heap.size 5 1 v k (by8 ([2] ++ e8 pc ++ (rg.take j).flatMap e8))) (fun _ q _ => 16 - (intOf q).toNat)
  case atStart => exact ⟨0, 9, rfl, by omega, Hid.mk' rfl, hB3, by simpa using hown3⟩
  case round =>
    clear hown3 hB3
    obtain ⟨j, k, rfl, hj, hk, hbl, hown⟩ := hrel
    have hbs := hbl.size
    by_cases hlt : j < 16
    · have hI : (j : Int) < 16 := by omega
      have hcj := ((A0.below hbl A0.lt).cell j).trans (hat j hlt)
      clear hat
      have hft : Hid ([2] ++ e8 pc ++ (rg.take (j + 1)).flatMap e8 = [2] ++ e8 pc ++ (rg.take j).flatMap e8 ++ e8 (rg.getD j 0)) := Hid.mk' (by rw [flatMap_take (by omega)]; simp only [List.append_assoc])
      generalize rg.getD j 0 = y at *
      have hk10 : k ≤ 1000 := by have := hk.out; omega
      generalize [2] ++ e8 pc ++ (rg.take j).flatMap e8 = B0 at *
      go_wp2_with (first
        | (go_at_call 53; go_must (refine (eight_any y _).mono ?_; rintro e w4 ⟨v4, rfl, hown4, hb4⟩; obtain ⟨g4, c4, rfl, -, hc4, hgb4, hSl4⟩ := sl_of_own hown4 (by omega); have hB4 := hbl.trans (hb4.mono hbs); have own4 := own_same hown (fun k hk => hb4.block k (own_lt hown hk))))
        | (refine atA (.tmp 33) (.tmp 37) ?_; go_must (refine append_bytes (by rfl) (.tmp 33) (.tmp 37) (by rfl) V.heap.size _ k B0 (by rfl) own4 (some ⟨g4, 0, none⟩) 8 c4 (e8 y) (by rfl) (by rw [e8_len]) (fun h => by cases h) hSl4 (by omega) hB4.size ?_; intro v5 w5 hown5 hg5; have hB5 : Below V.heap.size V w5 := hB4.grown hg5 hB4.size (fun k e => own_ge own4 k e))))
      go_roundw
      case rel => exact ⟨j + 1, k + 8, by go_num, by omega, Hid.mk' (by have := hk.out; omega), hB5, by rw [hft.out]; exact hown5⟩
      case measure => simp [intOf]; omega
    · obtain rfl : j = 16 := by omega
      have hI : ¬ ((16 : Nat) : Int) < 16 := by omega
      obtain rfl : k = 137 := hk.out
      rw [List.take_of_length_le (by omega)] at hown
      generalize [2] ++ e8 pc ++ rg.flatMap e8 = B0 at *
      clear hk hat
      go_wp2_with (first
        | (refine atA (.tmp 39) (.tmp 43) ?_; go_must (refine append_bytes (by rfl) (.tmp 39) (.tmp 43) (by rfl) V.heap.size _ 137 B0 (by rfl) (hown.alloc _) (some ⟨wr.heap.size, 0, none⟩) 2 2 [s, d] (by rfl) (by rfl) (fun h => by cases h) (Arr.sl (Arr.new wr 5 _)) (by omega) (by simp; omega) ?_; intro v5 w5 hown5 hg5; have hB5 : Below V.heap.size V w5 := (hbl.alloc hbs _).grown hg5 (by simp; omega) (fun k e => own_ge hown k e); have Q15 := A1.below hB5 A1.lt; have Q25 := A2.below hB5 A2.lt))
        | (refine atA (.tmp 45) (.tmp 46) ?_; go_must (refine append_bytes (by rfl) (.tmp 45) (.tmp 46) (by rfl) V.heap.size _ 139 (B0 ++ [s, d]) (by rfl) hown5 (some ⟨w.heap.size + 1, 0, none⟩) 32 32 R (by rfl) hR.symm (fun h => by cases h) (h8_sl Q15) (by omega) hB5.size ?_; intro v6 w6 hown6 hg6; rw [hcm.out] at hown6; have hB6 : Below V.heap.size V w6 := hB5.grown hg6 hB5.size (fun k e => own_ge hown5 k e); have Q26 := A2.below hB6 A2.lt; obtain ⟨g6, c6, rfl, -, hc6, -, hSl6⟩ := sl_of_own hown6 (by omega)))
        | (go_at_call 54; go_must (refine (hsum _ _ _ (fun h => by cases h) hSl6).mono ?_; rintro e w7 ⟨rfl, hb7⟩; have Q27 := Q26.below hb7 Q26.lt; have hB7 := hB6.trans (hb7.mono hB6.size)))
        | (refine st24 (by rfl) _ _ (by rfl) (w.heap.size + 1 + 1) CC Z32 (by rfl) (by rfl) hC32 Z32_len Q27 ?_))
      exact bodyPost_ret (v := .tuple #[.agg (h8 CC), .int .i64 0]) (resP Try.results27 rfl rfl hC32 (Q27.setRow _)) rfl ⟨rfl, below_setRow (hb0.trans (hB7.mono (by omega))) (by omega) _⟩
theorem parts_any (pc : Int) (rg : List Int) (s d : Int) (R : List Int) (w : World) (hrg : rg.length = 16) (hR : R.length = 32) (hs : 0 ≤ s ∧ s < 256) : Calls Try.prog 26 #[.int .u64 pc, .agg (rgA rg), .int .u8 s, .int .i64 d, .agg (h8 R)] w fun e w' => e = .returned (.tuple #[.agg (h8 (cmR pc rg s d R)), .int .i64 (cmE s d)]) ∧ Below w.heap.size w w' := by
  unfold cmR cmE
  by_cases h : 0 ≤ d ∧ d ≤ 12
  · by_cases h2 : s ≤ 2
    · rw [if_pos (show cOK s d from ⟨h.1, h.2, h2⟩), if_pos (show cOK s d from ⟨h.1, h.2, h2⟩)]; exact parts_ok pc rg s d R w hrg hR hs h h2
    · rw [if_neg (fun hh : cOK s d => h2 hh.2.2), if_neg (fun hh : cOK s d => h2 hh.2.2)]; exact parts_no2 pc rg s d R w hrg hR hs h h2
  · rw [if_neg (fun hh : cOK s d => h ⟨hh.1, hh.2.1⟩), if_neg (fun hh : cOK s d => h ⟨hh.1, hh.2.1⟩)]; exact parts_no1 pc rg s d R w hrg hR hs h
theorem refParts_any (pc : Int) (rg : List Int) (s d : Int) (R : List Int) (w : World) (hrg : rg.length = 16) (hR : R.length = 32) (hs : 0 ≤ s ∧ s < 256) : Calls Try.prog 27 #[.int .u64 pc, .agg (rgA rg), .int .u8 s, .int .i64 d, .agg (h8 R)] w fun e w' => e = .returned (.tuple #[.agg (h8 (cmR pc rg s d R)), .int .i64 (cmE s d)]) ∧ Below w.heap.size w w' := by
  unfold cmR cmE
  by_cases h : 0 ≤ d ∧ d ≤ 12
  · by_cases h2 : s ≤ 2
    · rw [if_pos (show cOK s d from ⟨h.1, h.2, h2⟩), if_pos (show cOK s d from ⟨h.1, h.2, h2⟩)]; exact refParts_ok pc rg s d R w hrg hR hs h h2
    · rw [if_neg (fun hh : cOK s d => h2 hh.2.2), if_neg (fun hh : cOK s d => h2 hh.2.2)]; exact refParts_no3 pc rg s d R w hrg hR hs (by omega) (by omega) (by omega)
  · rw [if_neg (fun hh : cOK s d => h ⟨hh.1, hh.2.1⟩), if_neg (fun hh : cOK s d => h ⟨hh.1, hh.2.1⟩)]
    by_cases h0 : d < 0
    · exact refParts_no1 pc rg s d R w hrg hR hs h0
    · exact refParts_no2 pc rg s d R w hrg hR hs h0 (by omega)
end Go.Proofs.Ytndonaebdbbofaa
/- Layer mem: Commit, and the document's; the law MemCommits. -/
namespace Go.Proofs.Ytndonaebdbbofaa
open Go.RowKit
set_option maxRecDepth 100000
set_option linter.unusedVariables false
set_option linter.unusedSimpArgs false


theorem mcA_rg {w : World} {g ty : Nat} {m : Mc} {sp : Option Addr} {n cap : Nat} (h : Arr w g ty (mcA m sp n cap)) : w.rangeAt g 1 (by64 m.rg) := fun j u hu => by
  rw [h.cell]
  simp only [mcA, mcL, List.getElem?_toArray]
  rw [show 1 + j = j + 1 by omega, List.getElem?_cons_succ, List.getElem?_append_left (List.getElem?_eq_some_iff.1 hu).1]
  exact hu
theorem y58 {ops : Array Oper} {S : World → Prop} {op : Oper} {a : Act} (hw : Region.wanted op (yielded ops a.tmps) = true) (x : Operand) (ho : op.op = .load 58 x)
    (b o : Nat) (hx : a.eval x = .pointer (some ⟨b, o, none⟩)) (rg : List Int) (hX : rg.length = 16) (hS : ∀ w, S w → w.rangeAt b o (by64 rg)) : YieldsIf Try.prog ops S op (.agg (rgA rg)) a :=
  yieldsIf_load_mid hw 58 x ho b o hx (by64 rg) _ hS Try.underlying58 rfl (by rw [by64_len, hX]; exact size58)
theorem ld58m {ops : Array Oper} {rest : List Oper} {o : Oper} {a : Act} {w : World} {Q : Exit → Act → World → Prop} (hgd : o.guard = none) (x : Operand) (ho : o.op = .load 58 x)
    (g off : Nat) (hx : a.eval x = .pointer (some ⟨g, off, none⟩)) (rg : List Int) (hX : rg.length = 16) (hc : w.rangeAt g off (by64 rg))
    (h : wpList Try.prog ops Q rest (a.put o.dst (.agg (rgA rg))) w) : wpList Try.prog ops Q (o :: rest) a w :=
  wpList_load_mid hgd 58 x ho g off hx (by64 rg) _ hc Try.underlying58 rfl (by rw [by64_len, hX]; exact size58) h
/-- A machine's commitment: what is answered. -/
def coR (m : Mc) : List Int := if mayM m = true then cmt m.pc m.rg m.st (Nat.log2 m.me.length : Nat) (rW m.me) else Z32
def coE (m : Mc) : Int := if mayM m = true then 0 else 2
theorem coR_len (m : Mc) : (coR m).length = 32 := by
  unfold coR; split
  · exact shl_len _
  · exact Z32_len
set_option maxHeartbeats 2000000 in
theorem commit_any (m : Mc) (sp : Option Addr) (n cap : Nat) (N : Nat) (w : World) (hok : m.ok) (hM : MS N w sp n cap m.me) :
    Calls Try.prog 24 #[.agg (mcA m sp n cap)] w fun e w' => e = .returned (.tuple #[.agg (h8 (coR m)), .int .i64 (coE m)]) ∧ Below w.heap.size w w' := by
  have A0 := (Arr.new w 61 (mcA m sp n cap)).alloc (.cells (h8 Z32) 43)
  have A1 := Arr.new (w.alloc (.cells (mcA m sp n cap) 61)) 43 (h8 Z32)
  simp only [World.size_alloc] at A1
  have hb0 := (alloc_bel' w (.cells (mcA m sp n cap) 61)).alloc (by simp) (.cells (h8 Z32) 43)
  rw [h8_Z] at A0 A1 hb0
  have hmay := fun U => may_anyV m sp n cap U hok hM.len hM.small
  have hs0 := mcA_size hok.r16 sp n cap
  have e0 := mcA_0 m sp n cap
  have e17 := mcA_17 hok.r16 sp n cap
  have e18 := mcA_18 hok.r16 sp n cap
  have hrg := fun (u : World) (h : Arr u w.heap.size 61 (mcA m sp n cap)) => mcA_rg h
  have hMh := hM.here
  unfold coR coE
  cases hmm : mayM m with
  | false =>
    rw [hmm] at hmay
    rw [if_neg (by decide), if_neg (by decide)]
    generalize mcA m sp n cap = C at *
    clear hmm
    go_enter Try.func24, Try.ntmps24
    go_wp2_with (first
      | (refine ld45 (by rfl) (.tmp 1) (by rfl) w.heap.size (by rfl) C hs0 A0 ?_)
      | (go_at_call 49; go_must (refine (hmay _).mono ?_; rintro e w1 ⟨rfl, hb1⟩; have A11 := A1.below hb1 A1.lt; have hB1 := hb0.trans (hb1.mono (by simp; omega))))
      | (refine st24 (by rfl) _ _ (by rfl) (w.heap.size + 1) Z32 Z32 (by rfl) (by rfl) Z32_len Z32_len A11 ?_))
    exact bodyPost_ret (v := .tuple #[.agg (h8 Z32), .int .i64 2]) (resP Try.results24 rfl rfl Z32_len (A11.setRow _)) rfl ⟨rfl, below_setRow hB1 (by omega) _⟩
  | true =>
    rw [hmm] at hmay
    rw [if_pos rfl, if_pos rfl]
    have hmm' := hmm
    unfold mayM at hmm'
    rw [Bool.and_eq_true, decide_eq_true_eq] at hmm'
    obtain ⟨hsb, hst⟩ := hmm'
    obtain ⟨d, hd, he⟩ := szB_pow hsb
    have hn : Hid (n = 2 ^ d) := Hid.mk' (by rw [hM.len.out, he])
    rw [he, Nat.log2_two_pow]
    have hn4 : n ≤ 4096 := by rw [hn.out]; exact pow12 hd
    have hdep := fun U => depthOf_any d n hd hn U
    have hroot := fun U (h : MS w.heap.size U sp n cap m.me) => rootM_any sp n cap m.me w.heap.size U h hok.me
    rw [(rW_pow hd he).2] at hroot
    have hRl := rW_len m.me
    have hpt := fun U => parts_any m.pc m.rg m.st (d : Nat) (rW m.me) U hok.r16 hRl hok.st
    have hcOK : cOK m.st (d : Nat) := ⟨by omega, by omega, hst⟩
    have hcm : cmR m.pc m.rg m.st (d : Nat) (rW m.me) = cmt m.pc m.rg m.st (d : Nat) (rW m.me) ∧ cmE m.st (d : Nat) = 0 := by unfold cmR cmE; rw [if_pos hcOK, if_pos hcOK]; exact ⟨rfl, rfl⟩
    rw [hcm.1, hcm.2] at hpt
    have hC32 : (cmt m.pc m.rg m.st (d : Nat) (rW m.me)).length = 32 := shl_len _
    generalize cmt m.pc m.rg m.st (d : Nat) (rW m.me) = CC at *
    clear hcm hcOK he hsb hmm
    have h16 := hok.r16
    generalize rW m.me = R at *
    generalize mcA m sp n cap = C at *
    go_enter Try.func24, Try.ntmps24
    go_upto_region 4 with (first
      | (refine ld45 (by rfl) (.tmp 1) (by rfl) w.heap.size (by rfl) C hs0 A0 ?_)
      | (go_at_call 49; go_must (refine (hmay _).mono ?_; rintro e w1 ⟨rfl, hb1⟩; have A01 := A0.below hb1 A0.lt; have A11 := A1.below hb1 A1.lt; have hB1 := hb0.trans (hb1.mono (by simp; omega)); have c18 := (A01.cell 18).trans e18))
      | (go_at_call 21; go_must (refine (hroot _ (hMh.below hB1)).mono ?_; rintro e w2 ⟨rfl, hb2⟩; have hs2 := hb2.size; have A02 := (A01.below hb2 A01.lt).alloc (.cells (h8 R) 43); have A12 := (A11.below hb2 A11.lt).alloc (.cells (h8 R) 43); have Q2 := Arr.new w2 43 (h8 R); have hB2 := (hB1.trans (hb2.mono (by have := hB1.size; omega))).alloc (by have := hB1.size; omega) (.cells (h8 R) 43)))
      | (refine st24n (by rfl) _ _ (by rfl) w2 w2.heap.size rfl (by rfl) R (by rfl) (by rfl) hRl ?_))
    generalize hV : w2.alloc (.cells (h8 R) 43) = V at *
    clear hV c18
    have hgR : w.heap.size + 2 ≤ w2.heap.size := by have := A11.lt; omega
    generalize w2.heap.size = gR at *
    have hVs := hB2.size
    refine wp_region_held_drew (S := fun u => Arr u w.heap.size 61 C ∧ Arr u gR 43 (h8 R)) (by kernel_rfl) ⟨A02, Q2⟩ (fun hHeld => ?_)
    refine wpAnyH_take (i := 0) (oi := ⟨_, _, _, _, _, _⟩) (v := ?_) rfl (by kernel_rfl) (by kernel_rfl) (by kernel_rfl) (fun _ _ _ h => h) (Or.inl ⟨by rfl, ?_⟩) (by assumption) ?_
    rotate_left
    · intro u hSw
      go_simp
      try (with_reducible rfl)
    try simp only [Act.put, List.setIfInBounds_toArray, List.set_cons_zero, List.set_cons_succ]
    refine wpAnyH_take (i := 1) (oi := ⟨_, _, _, _, _, _⟩) (v := ?_) rfl (by kernel_rfl) (by kernel_rfl) (by kernel_rfl) (fun _ _ _ h => h) (Or.inl ⟨by rfl, ?_⟩) (by assumption) ?_
    rotate_left
    · intro u hSw
      have hc := (hSw.1.cell 0).trans e0
      go_simp
      try (with_reducible rfl)
    try simp only [Act.put, List.setIfInBounds_toArray, List.set_cons_zero, List.set_cons_succ]
    refine wpAnyH_take (i := 2) (oi := ⟨_, _, _, _, _, _⟩) (v := ?_) rfl (by kernel_rfl) (by kernel_rfl) (by kernel_rfl) (fun _ _ _ h => h) (Or.inl ⟨by rfl, ?_⟩) (by assumption) ?_
    rotate_left
    · intro u hSw
      go_simp
      try (with_reducible rfl)
    try simp only [Act.put, List.setIfInBounds_toArray, List.set_cons_zero, List.set_cons_succ]
    refine wpAnyH_take (i := 3) (oi := ⟨_, _, _, _, _, _⟩) rfl (by kernel_rfl) (by kernel_rfl) (by kernel_rfl) (fun _ _ _ h => h) (y58 (by rfl) (.tmp 18) rfl w.heap.size 1 rfl m.rg h16 (fun u hu => hrg u hu.1)) (by assumption) ?_
    try simp only [Act.put, List.setIfInBounds_toArray, List.set_cons_zero, List.set_cons_succ]
    refine wpAnyH_take (i := 4) (oi := ⟨_, _, _, _, _, _⟩) (v := ?_) rfl (by kernel_rfl) (by kernel_rfl) (by kernel_rfl) (fun _ _ _ h => h) (Or.inl ⟨by rfl, ?_⟩) (by assumption) ?_
    rotate_left
    · intro u hSw
      go_simp
      try (with_reducible rfl)
    try simp only [Act.put, List.setIfInBounds_toArray, List.set_cons_zero, List.set_cons_succ]
    refine wpAnyH_take (i := 5) (oi := ⟨_, _, _, _, _, _⟩) (v := ?_) rfl (by kernel_rfl) (by kernel_rfl) (by kernel_rfl) (fun _ _ _ h => h) (Or.inl ⟨by rfl, ?_⟩) (by assumption) ?_
    rotate_left
    · intro u hSw
      have hc := (hSw.1.cell 17).trans e17
      go_simp
      try (with_reducible rfl)
    try simp only [Act.put, List.setIfInBounds_toArray, List.set_cons_zero, List.set_cons_succ]
    refine wpAnyH_take (i := 6) (oi := ⟨_, _, _, _, _, _⟩) (v := ?_) rfl (by kernel_rfl) (by kernel_rfl) (by kernel_rfl) (fun _ _ _ h => h) (Or.inl ⟨by rfl, ?_⟩) (by assumption) ?_
    rotate_left
    · intro u hSw
      go_simp
      try (with_reducible rfl)
    try simp only [Act.put, List.setIfInBounds_toArray, List.set_cons_zero, List.set_cons_succ]
    refine wpAnyH_take (i := 7) (oi := ⟨_, _, _, _, _, _⟩) (v := ?_) rfl (by kernel_rfl) (by kernel_rfl) (by kernel_rfl) (fun _ _ _ h => h) (Or.inl ⟨by rfl, ?_⟩) (by assumption) ?_
    rotate_left
    · intro u hSw
      have hc := (hSw.1.cell 18).trans e18
      go_simp
      try (with_reducible rfl)
    try simp only [Act.put, List.setIfInBounds_toArray, List.set_cons_zero, List.set_cons_succ]
    refine wpAnyH_take (i := 8) (oi := ⟨_, _, _, _, _, _⟩) (v := ?_) rfl (by kernel_rfl) (by kernel_rfl) (by kernel_rfl) (fun _ _ _ h => h) (Or.inl ⟨by rfl, ?_⟩) (by assumption) ?_
    rotate_left
    · intro u hSw
      go_simp
      try (with_reducible rfl)
    try simp only [Act.put, List.setIfInBounds_toArray, List.set_cons_zero, List.set_cons_succ]
    refine wpAnyH_take (i := 10) (oi := ⟨_, _, _, _, _, _⟩) rfl (by kernel_rfl) (by kernel_rfl) (by kernel_rfl) (fun _ _ _ h => h) (y24 (by rfl) (.tmp 4) rfl (gR) (0) rfl R hRl (fun u hu => hu.2.range)) (by assumption) ?_
    try simp only [Act.put, List.setIfInBounds_toArray, List.set_cons_zero, List.set_cons_succ]
    refine wpAnyH_ready (rs := [9]) (by kernel_rfl) (by simp) ?_
    refine AllReadyH.cons (o := ⟨_, _, _, _, _, _⟩) rfl (fun K hK => ?_) AllReadyH.nil
    go_simp
    refine (hdep _).mono ?_; rintro e u1 ⟨rfl, h⟩; replace h := h.symm; subst h
    go_wp2_with fail
    refine hK.out _ _ ⟨A02, Q2⟩ (fun hHeld => ?_)
    clear hK K
    try simp only [Act.put, List.setIfInBounds_toArray, List.set_cons_zero, List.set_cons_succ]
    refine wpAnyH_ready (rs := [11]) (by kernel_rfl) (by simp) ?_
    refine AllReadyH.cons (o := ⟨_, _, _, _, _, _⟩) rfl (fun K hK => ?_) AllReadyH.nil
    go_simp
    refine (hpt _).mono ?_; rintro e u2 ⟨rfl, hb3⟩; have D : Below V.heap.size V u2 := ((Below.refl _ _).drew).trans (hb3.mono (by simp)); have A03 := A02.below D A02.lt; have Q3 := Q2.below D Q2.lt; have A13 := A12.below D A12.lt
    go_wp2_with fail
    refine hK.out _ _ ⟨A03, Q3⟩ (fun hHeld => ?_)
    clear hK K
    try simp only [Act.put, List.setIfInBounds_toArray, List.set_cons_zero, List.set_cons_succ]
    refine wpAnyH_take (i := 12) (oi := ⟨_, _, _, _, _, _⟩) (v := ?_) rfl (by kernel_rfl) (by kernel_rfl) (by kernel_rfl) (fun _ _ _ h => h) (Or.inl ⟨by rfl, ?_⟩) (by assumption) ?_
    rotate_left
    · intro u hSw
      go_simp
      try (with_reducible rfl)
    try simp only [Act.put, List.setIfInBounds_toArray, List.set_cons_zero, List.set_cons_succ]
    refine wpAnyH_take (i := 13) (oi := ⟨_, _, _, _, _, _⟩) (v := ?_) rfl (by kernel_rfl) (by kernel_rfl) (by kernel_rfl) (fun _ _ _ h => h) (Or.inl ⟨by rfl, ?_⟩) (by assumption) ?_
    rotate_left
    · intro u hSw
      go_simp
      try (with_reducible rfl)
    try simp only [Act.put, List.setIfInBounds_toArray, List.set_cons_zero, List.set_cons_succ]
    refine wpAnyH_ready (rs := [14]) (by kernel_rfl) (by simp) ?_
    refine AllReadyH.cons (o := ⟨_, _, _, _, _, _⟩) rfl (fun K hK => ?_) AllReadyH.nil
    refine step_want rfl (wp_store_row 43 (.tmp 2) (.tmp 28) rfl (w.heap.size + 1) (h8 CC) rfl rfl 43 _ A13 (s24h8 hC32) (by rw [h8_size, hC32]; rfl) (h8_one CC) ?_)
    refine hK.out _ _ ⟨A03.setRowOther _ (by omega), Q3.setRowOther _ (by omega)⟩ (fun hHeld => ?_)
    clear hK K
    try simp only [Act.put, List.setIfInBounds_toArray, List.set_cons_zero, List.set_cons_succ]
    refine wpAnyH_take (i := 15) (oi := ⟨_, _, _, _, _, _⟩) (v := ?_) rfl (by kernel_rfl) (by kernel_rfl) (by kernel_rfl) (fun _ _ _ h => h) (Or.inl ⟨by rfl, ?_⟩) (by assumption) ?_
    rotate_left
    · intro u hSw
      go_simp
      try (with_reducible rfl)
    try simp only [Act.put, List.setIfInBounds_toArray, List.set_cons_zero, List.set_cons_succ]
    refine wpAnyH_done (by kernel_rfl) ?_ _
    go_wp2_with fail
    exact bodyPost_ret (v := .tuple #[.agg (h8 CC), .int .i64 0]) (resP Try.results24 rfl rfl hC32 (A13.setRow _)) rfl ⟨rfl, below_setRow (hB2.trans (D.mono hVs)) (by omega) _⟩
set_option maxHeartbeats 2000000 in
theorem refCommit_any (m : Mc) (sp : Option Addr) (n cap : Nat) (N : Nat) (w : World) (hok : m.ok) (hM : MS N w sp n cap m.me) :
    Calls Try.prog 25 #[.agg (mcA m sp n cap)] w fun e w' => e = .returned (.tuple #[.agg (h8 (coR m)), .int .i64 (coE m)]) ∧ Below w.heap.size w w' := by
  have A0 := (Arr.new w 61 (mcA m sp n cap)).alloc (.cells (h8 Z32) 43)
  have A1 := Arr.new (w.alloc (.cells (mcA m sp n cap) 61)) 43 (h8 Z32)
  simp only [World.size_alloc] at A1
  have hb0 := (alloc_bel' w (.cells (mcA m sp n cap) 61)).alloc (by simp) (.cells (h8 Z32) 43)
  rw [h8_Z] at A0 A1 hb0
  have hmay := fun U => refMay_anyV m sp n cap U hok hM.len hM.small
  have hs0 := mcA_size hok.r16 sp n cap
  have e0 := mcA_0 m sp n cap
  have e17 := mcA_17 hok.r16 sp n cap
  have e18 := mcA_18 hok.r16 sp n cap
  have hrg := fun (u : World) (h : Arr u w.heap.size 61 (mcA m sp n cap)) => mcA_rg h
  have hMh := hM.here
  unfold coR coE
  cases hmm : mayM m with
  | false =>
    rw [hmm] at hmay
    rw [if_neg (by decide), if_neg (by decide)]
    generalize mcA m sp n cap = C at *
    clear hmm
    go_enter Try.func25, Try.ntmps25
    go_wp2_with (first
      | (refine ld45 (by rfl) (.tmp 1) (by rfl) w.heap.size (by rfl) C hs0 A0 ?_)
      | (go_at_call 50; go_must (refine (hmay _).mono ?_; rintro e w1 ⟨rfl, hb1⟩; have A11 := A1.below hb1 A1.lt; have hB1 := hb0.trans (hb1.mono (by simp; omega))))
      | (refine st24 (by rfl) _ _ (by rfl) (w.heap.size + 1) Z32 Z32 (by rfl) (by rfl) Z32_len Z32_len A11 ?_))
    exact bodyPost_ret (v := .tuple #[.agg (h8 Z32), .int .i64 2]) (resP Try.results25 rfl rfl Z32_len (A11.setRow _)) rfl ⟨rfl, below_setRow hB1 (by omega) _⟩
  | true =>
    rw [hmm] at hmay
    rw [if_pos rfl, if_pos rfl]
    have hmm' := hmm
    unfold mayM at hmm'
    rw [Bool.and_eq_true, decide_eq_true_eq] at hmm'
    obtain ⟨hsb, hst⟩ := hmm'
    obtain ⟨d, hd, he⟩ := szB_pow hsb
    have hn : Hid (n = 2 ^ d) := Hid.mk' (by rw [hM.len.out, he])
    rw [he, Nat.log2_two_pow]
    have hn4 : n ≤ 4096 := by rw [hn.out]; exact pow12 hd
    have hdep := fun U => refDepth_any d n hd hn U
    have hroot := fun U (h : MS w.heap.size U sp n cap m.me) => refRootM_any sp n cap m.me w.heap.size U h
    rw [(rW_pow hd he).2] at hroot
    have hRl := rW_len m.me
    have hpt := fun U => refParts_any m.pc m.rg m.st (d : Nat) (rW m.me) U hok.r16 hRl hok.st
    have hcOK : cOK m.st (d : Nat) := ⟨by omega, by omega, hst⟩
    have hcm : cmR m.pc m.rg m.st (d : Nat) (rW m.me) = cmt m.pc m.rg m.st (d : Nat) (rW m.me) ∧ cmE m.st (d : Nat) = 0 := by unfold cmR cmE; rw [if_pos hcOK, if_pos hcOK]; exact ⟨rfl, rfl⟩
    rw [hcm.1, hcm.2] at hpt
    have hC32 : (cmt m.pc m.rg m.st (d : Nat) (rW m.me)).length = 32 := shl_len _
    generalize cmt m.pc m.rg m.st (d : Nat) (rW m.me) = CC at *
    clear hcm hcOK he hsb hmm
    have h16 := hok.r16
    generalize rW m.me = R at *
    generalize mcA m sp n cap = C at *
    go_enter Try.func25, Try.ntmps25
    go_upto_region 4 with (first
      | (refine ld45 (by rfl) (.tmp 1) (by rfl) w.heap.size (by rfl) C hs0 A0 ?_)
      | (go_at_call 50; go_must (refine (hmay _).mono ?_; rintro e w1 ⟨rfl, hb1⟩; have A01 := A0.below hb1 A0.lt; have A11 := A1.below hb1 A1.lt; have hB1 := hb0.trans (hb1.mono (by simp; omega)); have c18 := (A01.cell 18).trans e18))
      | (go_at_call 17; go_must (refine (hroot _ (hMh.below hB1)).mono ?_; rintro e w2 ⟨rfl, hb2⟩; have hs2 := hb2.size; have A02 := (A01.below hb2 A01.lt).alloc (.cells (h8 R) 43); have A12 := (A11.below hb2 A11.lt).alloc (.cells (h8 R) 43); have Q2 := Arr.new w2 43 (h8 R); have hB2 := (hB1.trans (hb2.mono (by have := hB1.size; omega))).alloc (by have := hB1.size; omega) (.cells (h8 R) 43)))
      | (refine st24n (by rfl) _ _ (by rfl) w2 w2.heap.size rfl (by rfl) R (by rfl) (by rfl) hRl ?_))
    generalize hV : w2.alloc (.cells (h8 R) 43) = V at *
    clear hV c18
    have hgR : w.heap.size + 2 ≤ w2.heap.size := by have := A11.lt; omega
    generalize w2.heap.size = gR at *
    have hVs := hB2.size
    refine wp_region_held_drew (S := fun u => Arr u w.heap.size 61 C ∧ Arr u gR 43 (h8 R)) (by kernel_rfl) ⟨A02, Q2⟩ (fun hHeld => ?_)
    refine wpAnyH_take (i := 0) (oi := ⟨_, _, _, _, _, _⟩) (v := ?_) rfl (by kernel_rfl) (by kernel_rfl) (by kernel_rfl) (fun _ _ _ h => h) (Or.inl ⟨by rfl, ?_⟩) (by assumption) ?_
    rotate_left
    · intro u hSw
      go_simp
      try (with_reducible rfl)
    try simp only [Act.put, List.setIfInBounds_toArray, List.set_cons_zero, List.set_cons_succ]
    refine wpAnyH_take (i := 1) (oi := ⟨_, _, _, _, _, _⟩) (v := ?_) rfl (by kernel_rfl) (by kernel_rfl) (by kernel_rfl) (fun _ _ _ h => h) (Or.inl ⟨by rfl, ?_⟩) (by assumption) ?_
    rotate_left
    · intro u hSw
      have hc := (hSw.1.cell 0).trans e0
      go_simp
      try (with_reducible rfl)
    try simp only [Act.put, List.setIfInBounds_toArray, List.set_cons_zero, List.set_cons_succ]
    refine wpAnyH_take (i := 2) (oi := ⟨_, _, _, _, _, _⟩) (v := ?_) rfl (by kernel_rfl) (by kernel_rfl) (by kernel_rfl) (fun _ _ _ h => h) (Or.inl ⟨by rfl, ?_⟩) (by assumption) ?_
    rotate_left
    · intro u hSw
      go_simp
      try (with_reducible rfl)
    try simp only [Act.put, List.setIfInBounds_toArray, List.set_cons_zero, List.set_cons_succ]
    refine wpAnyH_take (i := 3) (oi := ⟨_, _, _, _, _, _⟩) rfl (by kernel_rfl) (by kernel_rfl) (by kernel_rfl) (fun _ _ _ h => h) (y58 (by rfl) (.tmp 18) rfl w.heap.size 1 rfl m.rg h16 (fun u hu => hrg u hu.1)) (by assumption) ?_
    try simp only [Act.put, List.setIfInBounds_toArray, List.set_cons_zero, List.set_cons_succ]
    refine wpAnyH_take (i := 4) (oi := ⟨_, _, _, _, _, _⟩) (v := ?_) rfl (by kernel_rfl) (by kernel_rfl) (by kernel_rfl) (fun _ _ _ h => h) (Or.inl ⟨by rfl, ?_⟩) (by assumption) ?_
    rotate_left
    · intro u hSw
      go_simp
      try (with_reducible rfl)
    try simp only [Act.put, List.setIfInBounds_toArray, List.set_cons_zero, List.set_cons_succ]
    refine wpAnyH_take (i := 5) (oi := ⟨_, _, _, _, _, _⟩) (v := ?_) rfl (by kernel_rfl) (by kernel_rfl) (by kernel_rfl) (fun _ _ _ h => h) (Or.inl ⟨by rfl, ?_⟩) (by assumption) ?_
    rotate_left
    · intro u hSw
      have hc := (hSw.1.cell 17).trans e17
      go_simp
      try (with_reducible rfl)
    try simp only [Act.put, List.setIfInBounds_toArray, List.set_cons_zero, List.set_cons_succ]
    refine wpAnyH_take (i := 6) (oi := ⟨_, _, _, _, _, _⟩) (v := ?_) rfl (by kernel_rfl) (by kernel_rfl) (by kernel_rfl) (fun _ _ _ h => h) (Or.inl ⟨by rfl, ?_⟩) (by assumption) ?_
    rotate_left
    · intro u hSw
      go_simp
      try (with_reducible rfl)
    try simp only [Act.put, List.setIfInBounds_toArray, List.set_cons_zero, List.set_cons_succ]
    refine wpAnyH_take (i := 7) (oi := ⟨_, _, _, _, _, _⟩) (v := ?_) rfl (by kernel_rfl) (by kernel_rfl) (by kernel_rfl) (fun _ _ _ h => h) (Or.inl ⟨by rfl, ?_⟩) (by assumption) ?_
    rotate_left
    · intro u hSw
      have hc := (hSw.1.cell 18).trans e18
      go_simp
      try (with_reducible rfl)
    try simp only [Act.put, List.setIfInBounds_toArray, List.set_cons_zero, List.set_cons_succ]
    refine wpAnyH_take (i := 8) (oi := ⟨_, _, _, _, _, _⟩) (v := ?_) rfl (by kernel_rfl) (by kernel_rfl) (by kernel_rfl) (fun _ _ _ h => h) (Or.inl ⟨by rfl, ?_⟩) (by assumption) ?_
    rotate_left
    · intro u hSw
      go_simp
      try (with_reducible rfl)
    try simp only [Act.put, List.setIfInBounds_toArray, List.set_cons_zero, List.set_cons_succ]
    refine wpAnyH_take (i := 10) (oi := ⟨_, _, _, _, _, _⟩) rfl (by kernel_rfl) (by kernel_rfl) (by kernel_rfl) (fun _ _ _ h => h) (y24 (by rfl) (.tmp 4) rfl (gR) (0) rfl R hRl (fun u hu => hu.2.range)) (by assumption) ?_
    try simp only [Act.put, List.setIfInBounds_toArray, List.set_cons_zero, List.set_cons_succ]
    refine wpAnyH_ready (rs := [9]) (by kernel_rfl) (by simp) ?_
    refine AllReadyH.cons (o := ⟨_, _, _, _, _, _⟩) rfl (fun K hK => ?_) AllReadyH.nil
    go_simp
    refine (hdep _).mono ?_; rintro e u1 ⟨rfl, h⟩; replace h := h.symm; subst h
    go_wp2_with fail
    refine hK.out _ _ ⟨A02, Q2⟩ (fun hHeld => ?_)
    clear hK K
    try simp only [Act.put, List.setIfInBounds_toArray, List.set_cons_zero, List.set_cons_succ]
    refine wpAnyH_ready (rs := [11]) (by kernel_rfl) (by simp) ?_
    refine AllReadyH.cons (o := ⟨_, _, _, _, _, _⟩) rfl (fun K hK => ?_) AllReadyH.nil
    go_simp
    refine (hpt _).mono ?_; rintro e u2 ⟨rfl, hb3⟩; have D : Below V.heap.size V u2 := ((Below.refl _ _).drew).trans (hb3.mono (by simp)); have A03 := A02.below D A02.lt; have Q3 := Q2.below D Q2.lt; have A13 := A12.below D A12.lt
    go_wp2_with fail
    refine hK.out _ _ ⟨A03, Q3⟩ (fun hHeld => ?_)
    clear hK K
    try simp only [Act.put, List.setIfInBounds_toArray, List.set_cons_zero, List.set_cons_succ]
    refine wpAnyH_take (i := 12) (oi := ⟨_, _, _, _, _, _⟩) (v := ?_) rfl (by kernel_rfl) (by kernel_rfl) (by kernel_rfl) (fun _ _ _ h => h) (Or.inl ⟨by rfl, ?_⟩) (by assumption) ?_
    rotate_left
    · intro u hSw
      go_simp
      try (with_reducible rfl)
    try simp only [Act.put, List.setIfInBounds_toArray, List.set_cons_zero, List.set_cons_succ]
    refine wpAnyH_take (i := 13) (oi := ⟨_, _, _, _, _, _⟩) (v := ?_) rfl (by kernel_rfl) (by kernel_rfl) (by kernel_rfl) (fun _ _ _ h => h) (Or.inl ⟨by rfl, ?_⟩) (by assumption) ?_
    rotate_left
    · intro u hSw
      go_simp
      try (with_reducible rfl)
    try simp only [Act.put, List.setIfInBounds_toArray, List.set_cons_zero, List.set_cons_succ]
    refine wpAnyH_ready (rs := [14]) (by kernel_rfl) (by simp) ?_
    refine AllReadyH.cons (o := ⟨_, _, _, _, _, _⟩) rfl (fun K hK => ?_) AllReadyH.nil
    refine step_want rfl (wp_store_row 43 (.tmp 2) (.tmp 28) rfl (w.heap.size + 1) (h8 CC) rfl rfl 43 _ A13 (s24h8 hC32) (by rw [h8_size, hC32]; rfl) (h8_one CC) ?_)
    refine hK.out _ _ ⟨A03.setRowOther _ (by omega), Q3.setRowOther _ (by omega)⟩ (fun hHeld => ?_)
    clear hK K
    try simp only [Act.put, List.setIfInBounds_toArray, List.set_cons_zero, List.set_cons_succ]
    refine wpAnyH_take (i := 15) (oi := ⟨_, _, _, _, _, _⟩) (v := ?_) rfl (by kernel_rfl) (by kernel_rfl) (by kernel_rfl) (fun _ _ _ h => h) (Or.inl ⟨by rfl, ?_⟩) (by assumption) ?_
    rotate_left
    · intro u hSw
      go_simp
      try (with_reducible rfl)
    try simp only [Act.put, List.setIfInBounds_toArray, List.set_cons_zero, List.set_cons_succ]
    refine wpAnyH_done (by kernel_rfl) ?_ _
    go_wp2_with fail
    exact bodyPost_ret (v := .tuple #[.agg (h8 CC), .int .i64 0]) (resP Try.results25 rfl rfl hC32 (A13.setRow _)) rfl ⟨rfl, below_setRow (hB2.trans (D.mono hVs)) (by omega) _⟩
end Go.Proofs.Ytndonaebdbbofaa
/- The law MemCommits. -/
namespace Go.Proofs.Ytndonaebdbbofaa
open Go.RowKit
set_option maxRecDepth 100000
set_option linter.unusedVariables false
set_option linter.unusedSimpArgs false


set_option maxHeartbeats 4000000 in
theorem commits_walk (m : Mc) (C0 : Array Value) (x : Int) (X : List Int) (w : World) (hV : MVV w m C0) (hx : -9223372036854775808 ≤ x ∧ x ≤ 9223372036854775807) (hX : X.length = 32) :
    Calls Try.prog 6 #[.agg C0, .int .i64 x, .agg (h8 X)] w fun e w' => e = .returned (.bool true) ∧ Below w.heap.size w w' := by
  obtain ⟨sp, n, cap, rfl, hM⟩ := hV.ex
  have hok := hV.ok
  have A0 := (Arr.new w 61 (mcA m sp n cap)).alloc (.cells (h8 X) 43)
  have A1 := Arr.new (w.alloc (.cells (mcA m sp n cap) 61)) 43 (h8 X)
  simp only [World.size_alloc] at A1
  have hb0 := (alloc_bel' w (.cells (mcA m sp n cap) 61)).alloc (by simp) (.cells (h8 X) 43)
  have hc1 := fun U h => commit_any m sp n cap w.heap.size U hok h
  have hc2 := fun U h => refCommit_any m sp n cap w.heap.size U hok h
  have hp1 := fun U => parts_any m.pc m.rg m.st x X U hok.r16 hX hok.st
  have hp2 := fun U => refParts_any m.pc m.rg m.st x X U hok.r16 hX hok.st
  have hs0 := mcA_size hok.r16 sp n cap
  have e0 := mcA_0 m sp n cap
  have e17 := mcA_17 hok.r16 sp n cap
  have hrg := fun (u : World) (h : Arr u w.heap.size 61 (mcA m sp n cap)) => mcA_rg h
  have h16 := hok.r16
  have hR1 := coR_len m
  have hR2 := cmR_len m.pc m.rg m.st x X
  generalize coR m = R1 at *
  generalize coE m = c1 at *
  generalize cmR m.pc m.rg m.st x X = R2 at *
  generalize cmE m.st x = c2 at *
  generalize mcA m sp n cap = C at *
  have hE1 := run_eq24 hR1 hR1
  have hE2 := run_eq24 hR2 hR2
  rw [decide_eq_true rfl] at hE1 hE2
  have hcc1 : (c1 == c1) = true := by simp
  have hcc2 : (c2 == c2) = true := by simp
  obtain ⟨V, hVe⟩ : ∃ V, V = (w.alloc (.cells C 61)).alloc (.cells (h8 X) 43) := ⟨_, rfl⟩
  rw [← hVe] at A0 A1 hb0
  have hVs : w.heap.size + 2 ≤ V.heap.size := by rw [hVe]; simp
  go_enter Try.func6, Try.ntmps6
  go_upto_region 1 with fail
  rw [← hVe]
  clear hVe
  go_upto_region 2 with (first
    | (refine atL 61 (.tmp 3) ?_; go_must (refine ld45 (by rfl) (.tmp 3) (by rfl) w.heap.size (by rfl) C hs0 A0 ?_))
    | (go_at_call 24; go_must (refine (hc1 _ (hM.below hb0)).mono ?_; rintro e w1 ⟨rfl, hb1⟩))
    | (refine atS 43 (.tmp 7) (.tmp 18) ?_; go_must (refine st24n (by rfl) (.tmp 7) (.tmp 18) (by rfl) w1 w1.heap.size rfl (by rfl) R1 (by rfl) (by rfl) hR1 ?_)))
  have D1 : Below V.heap.size V (w1.alloc (.cells (h8 R1) 43)) := hb1.alloc hb1.size _
  have Q1 := Arr.new w1 43 (h8 R1)
  have hs1 := hb1.size
  generalize hg : w1.alloc (.cells (h8 R1) 43) = V1 at *
  have hV1 : w1.heap.size < V1.heap.size := Q1.lt
  clear hg hb1
  generalize w1.heap.size = g1 at *
  go_upto_region 3 with (first
    | (refine atL 61 (.tmp 3) ?_; go_must (refine ld45 (by rfl) (.tmp 3) (by rfl) w.heap.size (by rfl) C hs0 (A0.below D1 A0.lt) ?_))
    | (go_at_call 25; go_must (refine (hc2 _ (hM.below (hb0.trans (D1.mono (by omega))))).mono ?_; rintro e w2 ⟨rfl, hb2⟩))
    | (refine atS 43 (.tmp 9) (.tmp 23) ?_; go_must (refine st24n (by rfl) (.tmp 9) (.tmp 23) (by rfl) w2 w2.heap.size rfl (by rfl) R1 (by rfl) (by rfl) hR1 ?_)))
  have D2 : Below V1.heap.size V1 (w2.alloc (.cells (h8 R1) 43)) := hb2.alloc hb2.size _
  have Q2 := Arr.new w2 43 (h8 R1)
  have hs2 := hb2.size
  generalize hg : w2.alloc (.cells (h8 R1) 43) = V2 at *
  have hV2 : w2.heap.size < V2.heap.size := Q2.lt
  clear hg hb2
  generalize w2.heap.size = g2 at *
  have P1 := Q1.below D2 hV1
  have B2 := D1.trans (D2.mono D1.size)
  have A02 := A0.below B2 A0.lt
  have A12 := A1.below B2 A1.lt
  have c0 := (A02.cell 0).trans e0
  have c17 := (A02.cell 17).trans e17
  have hrg2 := hrg _ A02
  go_upto_region 4 with (first
    | (refine atL 58 (.tmp 28) ?_; go_must (refine ld58m (by rfl) (.tmp 28) (by rfl) w.heap.size 1 (by rfl) m.rg h16 hrg2 ?_))
    | (refine atL 43 (.tmp 5) ?_; go_must (refine ld24 (by rfl) (.tmp 5) (by rfl) (w.heap.size + 1) 0 (by rfl) X hX A12.range ?_))
    | (go_at_call 26; go_must (refine (hp1 _).mono ?_; rintro e w3 ⟨rfl, hb3⟩))
    | (refine atS 43 (.tmp 11) (.tmp 35) ?_; go_must (refine st24n (by rfl) (.tmp 11) (.tmp 35) (by rfl) w3 w3.heap.size rfl (by rfl) R2 (by rfl) (by rfl) hR2 ?_)))
  have D3 : Below V2.heap.size V2 (w3.alloc (.cells (h8 R2) 43)) := hb3.alloc hb3.size _
  have Q3 := Arr.new w3 43 (h8 R2)
  have hs3 := hb3.size
  generalize hg : w3.alloc (.cells (h8 R2) 43) = V3 at *
  have hV3 : w3.heap.size < V3.heap.size := Q3.lt
  clear hg hb3 c0 c17 hrg2
  generalize w3.heap.size = g3 at *
  have P13 := P1.below D3 P1.lt
  have P23 := Q2.below D3 hV2
  have B3 := B2.trans (D3.mono B2.size)
  have A03 := A0.below B3 A0.lt
  have A13 := A1.below B3 A1.lt
  have c0 := (A03.cell 0).trans e0
  have c17 := (A03.cell 17).trans e17
  have hrg3 := hrg _ A03
  go_upto_region 5 with (first
    | (refine atL 58 (.tmp 40) ?_; go_must (refine ld58m (by rfl) (.tmp 40) (by rfl) w.heap.size 1 (by rfl) m.rg h16 hrg3 ?_))
    | (refine atL 43 (.tmp 5) ?_; go_must (refine ld24 (by rfl) (.tmp 5) (by rfl) (w.heap.size + 1) 0 (by rfl) X hX A13.range ?_))
    | (go_at_call 27; go_must (refine (hp2 _).mono ?_; rintro e w4 ⟨rfl, hb4⟩))
    | (refine atS 43 (.tmp 13) (.tmp 47) ?_; go_must (refine st24n (by rfl) (.tmp 13) (.tmp 47) (by rfl) w4 w4.heap.size rfl (by rfl) R2 (by rfl) (by rfl) hR2 ?_)))
  have D4 : Below V3.heap.size V3 (w4.alloc (.cells (h8 R2) 43)) := hb4.alloc hb4.size _
  have Q4 := Arr.new w4 43 (h8 R2)
  have hs4 := hb4.size
  generalize hg : w4.alloc (.cells (h8 R2) 43) = V4 at *
  clear hg hb4 c0 c17 hrg3
  generalize w4.heap.size = g4 at *
  have P14 := P13.below D4 P13.lt
  have P24 := P23.below D4 P23.lt
  have P34 := Q3.below D4 hV3
  have B4 := B3.trans (D4.mono B3.size)
  have hB : Below w.heap.size w V4 := hb0.trans (B4.mono (by omega))
  clear Q1 Q2 Q3 P1 P13 P23 A0 A1 A02 A12 A03 A13
  go_wp2_with (first
    | (refine atL 43 (.tmp 7) ?_; go_must (refine ld24g (by rfl) (.tmp 7) (by rfl) g1 0 (by rfl) R1 hR1 P14.range ?_))
    | (refine atL 43 (.tmp 9) ?_; go_must (refine ld24g (by rfl) (.tmp 9) (by rfl) g2 0 (by rfl) R1 hR1 P24.range ?_))
    | (refine atL 43 (.tmp 11) ?_; go_must (refine ld24g (by rfl) (.tmp 11) (by rfl) g3 0 (by rfl) R2 hR2 P34.range ?_))
    | (refine atL 43 (.tmp 13) ?_; go_must (refine ld24g (by rfl) (.tmp 13) (by rfl) g4 0 (by rfl) R2 hR2 Q4.range ?_))
    | (go_at_call 11; go_must (refine (anchored_anyM _).mono ?_; rintro e w5 ⟨rfl, hb5⟩)))
  go_ret
  exact ⟨rfl, hB.trans (hb5.mono hB.size)⟩
end Go.Proofs.Ytndonaebdbbofaa
