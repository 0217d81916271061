/- Layer msg: the law's own anchor. -/
import Derived.Test.YtoanfiikeeacdaaM
namespace Go.Proofs.Ytoanfiikeeacdaa
set_option linter.unusedSectionVars false
set_option maxHeartbeats 1000000
open Go.RowKit
set_option maxRecDepth 100000
set_option linter.unusedVariables false
set_option linter.unusedSimpArgs false

variable [DecidableEq Mg]
theorem eqItems_same {P : Program} (w : World) (d : Nat) {e : TypeId} {k : IntKind} (he : P.underlying e = some (.int k)) (ha : ∀ w, (isAgg e).run P w = .ok false w) (C : Array Value) (f : Nat → Int) :
    ∀ is : List Nat, (∀ i ∈ is, C[i]? = some (.int k (f i))) → (Op.eqItems (d + 1) e 1 C C is).run P w = .ok true w
  | [], _ => by simp [Op.eqItems]
  | i :: is, h => by
    have hi := h i (by simp)
    have ih := eqItems_same w d he ha C f is (fun j hj => h j (by simp [hj]))
    simp [Op.eqItems, part, ha, hi, run_equalIn_int w d e k k _ _ he, ih]
theorem info23 : (Try.prog.info? 23).map (fun i => (i.zero, i.size, i.bytes)) = some (some (.int .u64 0), 1, 8) := by kernel_rfl
theorem eq41 (f : Nat → Int) (w : World) : (binOp .eql 41 (.agg (u64s 13 f)) (.agg (u64s 13 f))).run Try.prog w = .ok (.bool true) w := by
  obtain ⟨i0, hi, -⟩ := info_parts info23
  have hc : Try.prog.cellsOf 23 = 1 := by kernel_rfl
  rw [run_eql_struct, run_equalIn_array w 9999 _ _ Try.underlying41 hi, hc, eqItems_same w 9998 Try.underlying23 Try.isAgg23 _ f (List.range 13) (fun i h => u64s_get (by simpa using h))]
  rfl
theorem ld41 {ops : Array Oper} {rest : List Oper} {o : Oper} {a : Act} {w : World} {Q : Exit → Act → World → Prop} (hgd : Region.wanted o (yielded ops a.tmps) = true) (x : Operand) (ho : o.op = .load 41 x)
    (g ty : Nat) (hx : a.eval x = .pointer (some ⟨g, 0, none⟩)) (f : Nat → Int) (hA : Arr w g ty (u64s 13 f))
    (h : wpList Try.prog ops Q rest (a.put o.dst (.agg (u64s 13 f))) w) : wpList Try.prog ops Q (o :: rest) a w :=
  wpList_want hgd fun _ hK => wp_load_mid 41 x ho g 0 hx (u64s 13 f).toList _ hA.u13 Try.underlying41 rfl (by rw [Array.length_toList]; exact s41u f) (hK _ _ h)
/-- A deposit of 5 to the account 3. -/
def m1 : Mg := ⟨1, 0, 3, 5, 0, Z32, Z32⟩
theorem m1_ok : MgOK m1 := Mg.ok2 mg0_ok (by decide) (by decide) (by decide) (by decide) (by decide) ⟨by simp [Z32], Z32_bts⟩ ⟨by simp [Z32], Z32_bts⟩
theorem m1_may : m1.may = true := by decide
theorem m1_words : u64s 13 (wd m1.bytes) = u64s 13 (w13 m1) := by
  refine arr_eq (f := fun t => .int .u64 (w13 m1 t)) (u64s_size _ _) fun t ht => ?_
  rw [u64s_get ht, wd_bytes m1_ok ht]
theorem built41a : Try.prog.built 41 [(0, .int .u64 1), (1, .int .u64 0), (2, .int .u64 3), (3, .int .u64 5)] = some (u64s 13 (w13 m1)) := by kernel_rfl
def Z104 : List Int := List.replicate 104 0
theorem Z104_bts : Bts Z104 := by intro x hx; simp only [Z104, List.mem_replicate] at hx; omega
theorem made104 : (madeCells (Value.int .u8 0).cells (104 * 1)).toList = by8 Z104 := by kernel_rfl
theorem Z104_bad : goodM Z104 = false := by decide
theorem writeC {m : Mg} (hm : MgOK m) (h : m.may = true) (w : World) : Calls Try.prog 6 #[.agg m.arr] w fun e w' => ∃ sp cap, e = .returned (.tuple #[.slice sp 104 cap, .int .i64 0]) ∧ BS w'.heap.size w' sp 104 cap m.bytes ∧ Below w.heap.size w w' := by
  refine (write_any m w hm).mono ?_
  rintro e w' ⟨sp, n, cap, rfl, hS, hb⟩
  rw [wb_yes h] at hS
  have hn : n = 104 := by have := hS.len.out; rw [Mg.blen hm] at this; exact this
  subst hn
  exact ⟨sp, cap, by rw [h]; rfl, hS, hb⟩
theorem readC {L : List Int} {sp : Option Addr} {n cap N : Nat} {w : World} (hS : BS N w sp n cap L) {M : Mg} {x : Int} (hM : Hid (rdM L = M)) (hx : Hid (rdE L = x)) :
    Calls Try.prog 12 #[.slice sp n cap] w fun e w' => e = .returned (.tuple #[.agg M.arr, .int .i64 x]) ∧ Below w.heap.size w w' := by
  refine (read_any sp n cap N L w hS).mono ?_
  rintro e w' ⟨rfl, hb⟩
  exact ⟨by rw [hM.out, hx.out], hb⟩
theorem refReadC {L : List Int} {sp : Option Addr} {n cap N : Nat} {w : World} (hS : BS N w sp n cap L) {M : Mg} {x : Int} (hM : Hid (rdM L = M)) (hx : Hid (rdE L = x)) :
    Calls Try.prog 13 #[.slice sp n cap] w fun e w' => e = .returned (.tuple #[.agg M.arr, .int .i64 x]) ∧ Below w.heap.size w w' := by
  refine (refRead_any sp n cap N L w hS).mono ?_
  rintro e w' ⟨rfl, hb⟩
  exact ⟨by rw [hM.out, hx.out], hb⟩
set_option maxHeartbeats 2000000 in
theorem anchored_any (w : World) : Calls Try.prog 11 #[] w fun e w' => e = .returned (.bool true) ∧ Below w.heap.size w w' := by
  obtain ⟨i0, hi, hz0, hz1, hz2⟩ := info_parts info5
  obtain ⟨M1, hM1⟩ : ∃ M, Hid (M = m1) := ⟨_, rfl⟩
  have hbd : Try.prog.built 27 [(0, .int .u8 1), (2, .int .u64 3), (3, .int .u64 5)] = some M1.arr := by rw [hM1.out]; exact built27d
  have h1ok : MgOK M1 := by rw [hM1.out]; exact m1_ok
  have h1may : M1.may = true := by rw [hM1.out]; exact m1_may
  obtain ⟨f, hf⟩ : ∃ f, Hid (f = w13 m1) := ⟨_, rfl⟩
  have hb41 : Try.prog.built 41 [(0, .int .u64 1), (1, .int .u64 0), (2, .int .u64 3), (3, .int .u64 5)] = some (u64s 13 f) := by rw [hf.out]; exact built41a
  have WC : ∀ {sp : Option Addr} {cap N : Nat} {u : World}, BS N u sp 104 cap M1.bytes → Calls Try.prog 14 #[.slice sp 104 cap] u fun r w' => r = .returned (.tuple #[.agg (u64s 13 f), .int .i64 0]) ∧ Below u.heap.size u w' := fun {sp cap N u} hS => by
    have hl : M1.bytes.length = 104 := Mg.blen h1ok
    have := words14_any sp 104 cap N M1.bytes u hS
    rw [we_eq hl, wv_yes hl, hM1.out, m1_words, ← hf.out] at this
    exact this
  obtain ⟨ZL, hZL⟩ : ∃ L, Hid (L = Z104) := ⟨_, rfl⟩
  have hmade : (madeCells (Value.int .u8 0).cells (104 * 1)).toList = by8 ZL := by rw [hZL.out]; exact made104
  have hZb : Bts ZL := by rw [hZL.out]; exact Z104_bts
  have RM : Hid (rdM ZL = mg0) := Hid.mk' (by rw [hZL.out]; exact (rd_bad (L := Z104) (by simp [Z104]) Z104_bad).1)
  have RE : Hid (rdE ZL = 8) := Hid.mk' (by rw [hZL.out]; exact (rd_bad (L := Z104) (by simp [Z104]) Z104_bad).2)
  have HM := Hid.mk' hmade
  clear hmade
  have hsz0 := Mg.size mg0_ok
  have z27 := zv27
  have EQ := eq41 f
  go_enter Try.func11, Try.ntmps11
  go_upto_region 2 with (first
    | (refine atB 27 ?_; refine bdT (by rfl) 27 _ (by rfl) (by rfl) hbd ?_)
    | (go_at_call 6; go_must (refine (writeC h1ok h1may _).mono ?_; rintro e w1 ⟨sp, cap, rfl, S1, B1⟩)))
  go_upto_region 3 with (first
    | (go_at_call 14; go_must (refine (WC S1).mono ?_; rintro e w2 ⟨rfl, hb2⟩; have B2 := B1.trans (hb2.mono B1.size)))
    | (refine atS 41 (.tmp 3) (.tmp 15) ?_; refine st41n (by rfl) (.tmp 3) (.tmp 15) (by rfl) w2 w2.heap.size rfl (by rfl) (u64s 13 f) (by rfl) (by rfl) (u64s_size _ _) (u64s_one _ _) ?_))
  have A3 := Arr.new w2 41 (u64s 13 f)
  have B3 := B2.alloc B2.size (.cells (u64s 13 f) 41)
  generalize hG : w2.heap.size = G at A3 ⊢
  generalize w2.alloc (.cells (u64s 13 f) 41) = w3 at A3 B3 ⊢
  clear hG B1 B2 hb2 S1
  have hlt3 := A3.lt
  go_upto_region 4 with (first
    | (at_make; go_must (refine wpList_make_full _ (by rfl) (.const (.int .i64 104)) (.const (.int .i64 104)) 28 (by rfl) (G + 1) 5 i0 (.int .u8 0) 1 Try.underlying28 hi hz0 hz1 .i64 .i64 _ _ 104 (by rfl) (by rfl) (by omega) (by omega) (by rw [hz2]; omega) (Nat.le_trans (by omega) maxLen_ge) (by omega) ?_; intro w4 hown4 hg4; rw [HM.out] at hown4; obtain ⟨s4, c4, e4, S4, -⟩ := own_bs hown4 hZb (by omega); simp only [Value.slice.injEq, true_and] at e4; obtain ⟨rfl, rfl⟩ := e4; have A4 : Arr w4 G 41 (u64s 13 f) := A3.grown hg4 (by simp); have B4 : Below w.heap.size w w4 := B3.grown hg4 B3.size (by simp)))
    | (go_at_call 12; go_must (refine (readC S4 RM RE).mono ?_; rintro e w5 ⟨rfl, hb5⟩; have A5 := A4.bel hb5; have B5 := B4.trans (hb5.mono B4.size); have A6 := A5.alloc (.cells mg0.arr 27); have B6 := B5.alloc B5.size (.cells mg0.arr 27)))
    | (refine atS 27 (.tmp 5) (.tmp 20) ?_; refine st27n (by rfl) (.tmp 5) (.tmp 20) (by rfl) w5 w5.heap.size rfl hsz0 mg0 (by rfl) (by rfl) mg0_ok ?_))
  go_wp2_with (first
    | (refine atL 41 (.tmp 3) ?_; refine ld41 (by rfl) (.tmp 3) (by rfl) G 41 (by rfl) f A6 ?_)
    | (refine atB 41 ?_; refine bdT (by rfl) 41 _ (by rfl) (by rfl) hb41 ?_))
  go_ret
  exact ⟨rfl, B6⟩
end Go.Proofs.Ytoanfiikeeacdaa
