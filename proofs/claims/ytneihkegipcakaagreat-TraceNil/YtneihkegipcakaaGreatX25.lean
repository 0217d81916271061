/- W11p, W14. -/
import Derived.Test.YtneihkegipcakaaGreatX24
/- Layer trace: Prove of a trace that is not there. -/
namespace Go.Proofs.YtneihkegipcakaaGreat
open Go.RowKit
set_option maxRecDepth 100000
set_option linter.unusedVariables false
set_option linter.unusedSimpArgs false

theorem size52 : (Tryz.prog.info? 52).map (·.size) = some 53 := by kernel_rfl
theorem resP2 {f : Func} {w : World} {tmps : Array Value} {g t k : Nat} {C : Array Value} {v : Value} (hf : f.results = #[.cell t 52, .tmp k]) (hp : tmps.getD t undef = .pointer (some ⟨g, 0, none⟩)) (hk : tmps.getD k undef = v) (hC : C.size = 53) (hA : Arr w g 52 C) :
    (results f tmps).run Tryz.prog w = .ok (.tuple #[.agg C, v]) w := by
  have hr := run_loadVar_mid (P := Tryz.prog) w g 0 52 C.toList _ (fun j v hv => by rw [Nat.zero_add, hA.cell]; simpa using hv) Tryz.underlying52 rfl (by rw [Array.length_toList, hC]; exact size52)
  have hp' : tmps[t]?.getD undef = .pointer (some ⟨g, 0, none⟩) := by simpa using hp
  have hk' : tmps[k]?.getD undef = v := by simpa using hk
  simp [results, hf, hp', hk', asAddr, hr]
theorem st52n {ops : Array Oper} {rest : List Oper} {o : Oper} {a : Act} {Q : Exit → Act → World → Prop} (hgd : o.guard = none) (x y : Operand) (ho : o.op = .store 52 x y) (W : World) (g : Nat) (hgW : W.heap.size = g) {z : Array Value} (hz : z.size = 53)
    (C : Array Value) (hx : a.eval x = .pointer (some ⟨g, 0, none⟩)) (hy : a.eval y = .agg C) (hC : C.size = 53) (h1 : C.all (·.oneCell') = true)
    (h : wpList Tryz.prog ops Q rest (a.put o.dst undef) (W.alloc (.cells C 52))) : wpList Tryz.prog ops Q (o :: rest) a (W.alloc (.cells z 52)) := by
  subst hgW
  exact wpList_store_new W z 52 hgd 52 x y ho C hx hy (by rw [hC]; exact size52) (by rw [hz, hC]) h1 h
set_option maxHeartbeats 2000000 in
theorem prove_nil (w : World) (k : Int) : Calls Tryz.prog 14 #[.pointer none, .int .i64 k] w fun e w' => e = .returned (.tuple #[.agg #[.int .u64 0, .int .u64 0, .int .u64 0, .int .u64 0, .int .u64 0, .int .u64 0, .int .u64 0, .int .u64 0, .int .u64 0, .int .u64 0, .int .u64 0, .int .u64 0, .int .u64 0, .int .u64 0, .int .u64 0, .int .u64 0, .int .u64 0, .int .u8 0, .int .i64 0, .int .u8 0, .int .u8 0, .int .u8 0, .int .u8 0, .int .u8 0, .int .u8 0, .int .u8 0, .int .u8 0, .int .u8 0, .int .u8 0, .int .u8 0, .int .u8 0, .int .u8 0, .int .u8 0, .int .u8 0, .int .u8 0, .int .u8 0, .int .u8 0, .int .u8 0, .int .u8 0, .int .u8 0, .int .u8 0, .int .u8 0, .int .u8 0, .int .u8 0, .int .u8 0, .int .u8 0, .int .u8 0, .int .u8 0, .int .u8 0, .int .u8 0, .int .u8 0, .slice none 0 0, .slice none 0 0], .int .i64 1]) ∧ Below w.heap.size w w' := by
  have hs := z53s
  have ho := z53o
  have h30 := find_nil (w.alloc (.cells #[.int .u64 0, .int .u64 0, .int .u64 0, .int .u64 0, .int .u64 0, .int .u64 0, .int .u64 0, .int .u64 0, .int .u64 0, .int .u64 0, .int .u64 0, .int .u64 0, .int .u64 0, .int .u64 0, .int .u64 0, .int .u64 0, .int .u64 0, .int .u8 0, .int .i64 0, .int .u8 0, .int .u8 0, .int .u8 0, .int .u8 0, .int .u8 0, .int .u8 0, .int .u8 0, .int .u8 0, .int .u8 0, .int .u8 0, .int .u8 0, .int .u8 0, .int .u8 0, .int .u8 0, .int .u8 0, .int .u8 0, .int .u8 0, .int .u8 0, .int .u8 0, .int .u8 0, .int .u8 0, .int .u8 0, .int .u8 0, .int .u8 0, .int .u8 0, .int .u8 0, .int .u8 0, .int .u8 0, .int .u8 0, .int .u8 0, .int .u8 0, .int .u8 0, .slice none 0 0, .slice none 0 0] 52)) k
  obtain ⟨Z, hZ⟩ : ∃ Z : Array Value, Z = #[.int .u64 0, .int .u64 0, .int .u64 0, .int .u64 0, .int .u64 0, .int .u64 0, .int .u64 0, .int .u64 0, .int .u64 0, .int .u64 0, .int .u64 0, .int .u64 0, .int .u64 0, .int .u64 0, .int .u64 0, .int .u64 0, .int .u64 0, .int .u8 0, .int .i64 0, .int .u8 0, .int .u8 0, .int .u8 0, .int .u8 0, .int .u8 0, .int .u8 0, .int .u8 0, .int .u8 0, .int .u8 0, .int .u8 0, .int .u8 0, .int .u8 0, .int .u8 0, .int .u8 0, .int .u8 0, .int .u8 0, .int .u8 0, .int .u8 0, .int .u8 0, .int .u8 0, .int .u8 0, .int .u8 0, .int .u8 0, .int .u8 0, .int .u8 0, .int .u8 0, .int .u8 0, .int .u8 0, .int .u8 0, .int .u8 0, .int .u8 0, .int .u8 0, .slice none 0 0, .slice none 0 0] := ⟨_, rfl⟩
  rw [← hZ] at hs ho ⊢
  replace hZ := Hid.mk' hZ
  go_enter Tryz.func14, Tryz.ntmps14
  go_wp2_with (first
    | (go_at_call 30; go_must (refine h30.mono ?_; rintro e w1 ⟨rfl, rfl⟩))
    | (refine aS11 52 (.tmp 4) (.tmp 12) ?_; rw [← hZ.out]; refine st52n (z := Z) (by rfl) (.tmp 4) (.tmp 12) (by rfl) w w.heap.size rfl hs Z (by rfl) (by rfl) hs ho ?_))
  exact bodyPost_ret (v := .tuple #[.agg Z, .int .i64 1]) (resP2 Tryz.results14 rfl rfl hs (Arr.new w 52 Z)) rfl ⟨rfl, alloc_bel' w _⟩
end Go.Proofs.YtneihkegipcakaaGreat
/- Layer trace: the law of TraceNil. -/
namespace Go.Proofs.YtneihkegipcakaaGreat
open Go.RowKit
set_option maxRecDepth 100000
set_option linter.unusedVariables false
set_option linter.unusedSimpArgs false


set_option maxHeartbeats 4000000 in
theorem law_nil (w : World) (k : Int) : Calls Tryz.prog 4 #[.int .i64 k] w fun e w' => e = .returned (.bool true) ∧ Below w.heap.size w w' := by
  have hs := z53s
  have ho := z53o
  have ms := z19s
  have mo := z19o
  obtain ⟨Z, hZ⟩ : ∃ Z : Array Value, Z = #[.int .u64 0, .int .u64 0, .int .u64 0, .int .u64 0, .int .u64 0, .int .u64 0, .int .u64 0, .int .u64 0, .int .u64 0, .int .u64 0, .int .u64 0, .int .u64 0, .int .u64 0, .int .u64 0, .int .u64 0, .int .u64 0, .int .u64 0, .int .u8 0, .int .i64 0, .int .u8 0, .int .u8 0, .int .u8 0, .int .u8 0, .int .u8 0, .int .u8 0, .int .u8 0, .int .u8 0, .int .u8 0, .int .u8 0, .int .u8 0, .int .u8 0, .int .u8 0, .int .u8 0, .int .u8 0, .int .u8 0, .int .u8 0, .int .u8 0, .int .u8 0, .int .u8 0, .int .u8 0, .int .u8 0, .int .u8 0, .int .u8 0, .int .u8 0, .int .u8 0, .int .u8 0, .int .u8 0, .int .u8 0, .int .u8 0, .int .u8 0, .int .u8 0, .slice none 0 0, .slice none 0 0] := ⟨_, rfl⟩
  obtain ⟨M, hM⟩ : ∃ M : Array Value, M = #[.int .u64 0, .int .u64 0, .int .u64 0, .int .u64 0, .int .u64 0, .int .u64 0, .int .u64 0, .int .u64 0, .int .u64 0, .int .u64 0, .int .u64 0, .int .u64 0, .int .u64 0, .int .u64 0, .int .u64 0, .int .u64 0, .int .u64 0, .int .u8 0, .slice none 0 0] := ⟨_, rfl⟩
  have h10 := fun (u : World) => at_nil u k
  have h12 : ∀ u : World, Calls Tryz.prog 12 #[.pointer none, .int .i64 k] u fun e w' => e = .returned (.tuple #[.agg M, .int .i64 1]) ∧ Below u.heap.size u w' := fun u => by rw [hM]; exact machine_nil u k
  have h14 : ∀ u : World, Calls Tryz.prog 14 #[.pointer none, .int .i64 k] u fun e w' => e = .returned (.tuple #[.agg Z, .int .i64 1]) ∧ Below u.heap.size u w' := fun u => by rw [hZ]; exact prove_nil u k
  have h20 := first_nil
  have h16 := len_nil
  have h7 := anchored_any
  rw [← hZ] at hs ho
  rw [← hM] at ms mo
  replace hZ := Hid.mk' hZ
  replace hM := Hid.mk' hM
  go_enter Tryz.func4, Tryz.ntmps4
  go_upto_region 3 with (first
    | (go_at_call 10; go_must (refine (h10 _).mono ?_; rintro e v1 ⟨rfl, hb1⟩))
    | (refine aS13 40 (.tmp 4) (.tmp 16) ?_; refine st24n (by rfl) (.tmp 4) (.tmp 16) (by rfl) v1 v1.heap.size rfl z32s Z32 (by rfl) (by rfl) Z32_len ?_))
  have B1 := hb1.alloc hb1.size (.cells (h8 Z32) 40)
  obtain ⟨U1, hU1⟩ : ∃ x, x = v1.alloc (.cells (h8 Z32) 40) := ⟨_, rfl⟩
  rw [← hU1] at B1 ⊢
  replace hU1 := Hid.mk' hU1
  go_upto_region 4 with (first
    | (go_at_call 12; go_must (refine (h12 _).mono ?_; rintro e v2 ⟨rfl, hb2⟩))
    | (refine aS13 27 (.tmp 6) (.tmp 22) ?_; rw [← hM.out]; refine st45n (z := M) (by rfl) (.tmp 6) (.tmp 22) (by rfl) v2 v2.heap.size rfl ms M (by rfl) (by rfl) ms mo ?_))
  have B2 := (B1.trans (hb2.mono B1.size)).alloc (B1.trans (hb2.mono B1.size)).size (.cells M 27)
  obtain ⟨U2, hU2⟩ : ∃ x, x = v2.alloc (.cells M 27) := ⟨_, rfl⟩
  rw [← hU2] at B2 ⊢
  replace hU2 := Hid.mk' hU2
  go_upto_region 5 with (first
    | (go_at_call 14; go_must (refine (h14 _).mono ?_; rintro e v3 ⟨rfl, hb3⟩))
    | (refine aS13 52 (.tmp 8) (.tmp 28) ?_; rw [← hZ.out]; refine st52n (z := Z) (by rfl) (.tmp 8) (.tmp 28) (by rfl) v3 v3.heap.size rfl hs Z (by rfl) (by rfl) hs ho ?_))
  have B3 := (B2.trans (hb3.mono B2.size)).alloc (B2.trans (hb3.mono B2.size)).size (.cells Z 52)
  obtain ⟨U3, hU3⟩ : ∃ x, x = v3.alloc (.cells Z 52) := ⟨_, rfl⟩
  rw [← hU3] at B3 ⊢
  replace hU3 := Hid.mk' hU3
  go_wp2_with (first
    | (go_at_call 20; go_must (refine (h20 _).mono ?_; rintro e v4 ⟨rfl, hb4⟩))
    | (go_at_call 16; go_must (refine (h16 _).mono ?_; rintro e v5 ⟨rfl, rfl⟩))
    | (go_at_call 7; go_must (refine (h7 _).mono ?_; rintro e v6 ⟨rfl, hb6⟩)))
  go_ret
  have B4 := B3.trans (hb4.mono B3.size)
  first | exact ⟨rfl, B4.trans (hb6.mono B4.size)⟩ | exact B4.trans (hb6.mono B4.size)
end Go.Proofs.YtneihkegipcakaaGreat
