/- Ko, Kp, Kq. -/
import Derived.Test.YtimmiidkjpbffaaX17
import Derived.Handy
import Derived.BigQuiet
import Derived.BigRegion
import Derived.Great.BuildSlice
import Derived.Laws.EntriesVeiled
import Derived.Test.YtimmiidkjpbffaaX06
/- Layer compile: places are mended, in memory. -/
namespace Go.Proofs.Ytimmiidkjpbffaa
open Go.RowKit
set_option maxRecDepth 100000
set_option linter.unusedVariables false
set_option linter.unusedSimpArgs false

variable {P : Nat → Prop} {q : KQ} {s : KS} {cv gv : Value}
theorem own_cells {w : World} {base e z n cap : Nat} {sp : Option Addr} {xs : List Value} (h : w.ownsRow base e z (.slice sp n cap) n xs) (h0 : 0 < n) : ∃ b, sp = some ⟨b, 0, none⟩ ∧ ∀ j v, xs[j]? = some v → w.cell? ⟨b, j, none⟩ = some v := by
  obtain ⟨hl, h' | ⟨g, c, cur, e1, hg, hh, h2, h3, h4, h5⟩⟩ := h
  · omega
  · cases e1
    have A : Arr w g e cur := hh
    refine ⟨g, rfl, fun j v hv => ?_⟩
    rw [A.cell j, ← Array.getElem?_toList]
    rw [← h5, List.getElem?_take] at hv
    split at hv
    · exact hv
    · cases hv
theorem KB.mend {b n cap a : Nat} {k : KI} {x : Int} {w : World} (h : KB P q s (.slice (some ⟨b, 0, none⟩) n cap) gv w) (hk : s.code[a]? = some k) (hn : n = s.code.length) :
    KB P q ⟨s.code.set a ⟨k.o, k.a, k.b, k.c, x⟩, s.gaps, s.pl, s.nx⟩ (.slice (some ⟨b, 0, none⟩) n cap) gv (w.setCell ⟨b, a * 5 + 4, none⟩ (.int .u32 x)) ∧ Ch P w (w.setCell ⟨b, a * 5 + 4, none⟩ (.int .u32 x)) := by
  have ha := (List.getElem?_eq_some_iff.1 hk).1
  subst hn
  have hb : ∀ j, j ≠ b → (w.setCell ⟨b, a * 5 + 4, none⟩ (.int .u32 x)).heap[j]? = w.heap[j]? := fun j hj => Below.heap_setCell _ _ _ _ (fun e => hj (by have e' : j = b := e; exact e'))
  have o2 := (own_set (i := a * 5 + 4) (y := .int .u32 x) h.oc (by omega)).1
  rw [← flatC_set hk] at o2
  have n2 := h.n2
  refine ⟨{ ar := (hb _ (fun e => n2.1 (by rw [e]; rfl))).trans h.ar, cd := (hb _ (fun e => n2.2.1 (by rw [e]; rfl))).trans h.cd, oc := by simpa using o2, og := own_mv h.og fun j e => hb j (fun e' => h.n4 b rfl (e' ▸ e)), mp := h.mp.same (hb _ (fun e => n2.2.2 (by rw [e]; rfl))), n1 := h.n1, n2 := h.n2, n3 := h.n3, n4 := h.n4, pg := h.pg, pc := h.pc, pp := h.pp, up := fun j hj => h.up j (by simpa using hj), le := by simpa using h.le }, ?_⟩
  exact (Ch.refl P w).st (g := b) (j := a * 5 + 4) _ (fun _ => h.pc b rfl)
set_option maxHeartbeats 4000000 in
theorem mend_any (w : World) (hK : KB P q s cv gv w) (hok : ∀ g ∈ s.gaps, 0 ≤ g.1 ∧ g.1 < s.code.length) (hl : s.code.length ≤ 1000000) :
    Calls Try.prog 32 #[.pointer (some ⟨q.g, 0, none⟩), cv] w fun e w' => e = .returned (.tuple #[]) ∧ KB P q ⟨mendC s.pl s.gaps s.code, s.gaps, s.pl, s.nx⟩ cv gv w' ∧ Ch P w w' := by
  obtain ⟨spc, cc, spg, cg, rfl, rfl⟩ := hK.gcs
  obtain ⟨nc, hnc⟩ : ∃ n, n = s.code.length := ⟨_, rfl⟩
  obtain ⟨ng, hng⟩ : ∃ n, n = s.gaps.length := ⟨_, rfl⟩
  have hle := hK.le
  rw [← hnc] at hK hl hok hle ⊢
  rw [← hng] at hK hle ⊢
  obtain ⟨fin, hF⟩ : ∃ y, y = mendC s.pl s.gaps s.code := ⟨_, rfl⟩
  rw [← hF]
  have c4 := hK.c4
  replace hnc := hid hnc
  replace hng := hid hng
  replace hF := hid hF
  replace hok := hid hok
  go_enter Try.func32, Try.ntmps32
  go_upto_region 1 with fail
  clear c4
  go_loopw [11] (fun i wr => ∃ (j : Nat) (c : List KI), i = .int .i64 (j : Int) ∧ j ≤ ng ∧ Hid (mendC s.pl (s.gaps.drop j) c = fin) ∧ Hid (c.length = nc) ∧ KB P q ⟨c, s.gaps, s.pl, s.nx⟩ (.slice spc nc cc) (.slice spg ng cg) wr ∧ Ch P w wr)
    (fun i _ => ng - (intOf i).toNat)
  case atStart => exact ⟨0, s.code, rfl, by omega, hid (by rw [List.drop_zero, hF.out]), hid hnc.out.symm, hK, Ch.refl P w⟩
  case round =>
    obtain ⟨j, c, rfl, hj, hz, hcl, hKj, hcj⟩ := hrel
    by_cases hlt : j < ng
    · obtain ⟨⟨at', tl⟩, hga⟩ : ∃ p : Int × Int, s.gaps[j]? = some p := ⟨s.gaps[j]'(by rw [← hng.out]; exact hlt), List.getElem?_eq_getElem _⟩
      obtain ⟨a0, a1⟩ := hok.out _ (List.mem_of_getElem? hga)
      obtain ⟨a, ha⟩ : ∃ n : Nat, at' = n := ⟨at'.toNat, by have a0 : 0 ≤ at' := a0; omega⟩
      subst ha
      replace a1 : (a : Int) < nc := a1
      obtain ⟨k, hk⟩ : ∃ k, c[a]? = some k := ⟨c[a]'(by rw [hcl.out]; omega), List.getElem?_eq_getElem _⟩
      have hog := hKj.og
      rw [show s.gaps.length = ng from hng.out.symm] at hog
      obtain ⟨bg, rfl, hcg⟩ := own_cells hog (by omega)
      have hoc := hKj.oc
      rw [show c.length = nc from hcl.out] at hoc
      obtain ⟨bc, rfl, hcc⟩ := own_cells hoc (by omega)
      have g0 := hcg _ _ (flatG_at hga (j := 0) rfl)
      have g1 := hcg _ _ (flatG_at hga (j := 1) rfl)
      have k4 := hcc _ _ (flatC_at hk (j := 4) rfl)
      simp only [Nat.add_zero] at g0
      rw [mendC_drop hga] at hz
      have hm1 : mend1 s.pl ((a : Int), tl) c = c.set a ⟨k.o, k.a, k.b, k.c, (k.i + (s.pl tl).getD 0) % 4294967296⟩ := by
        unfold mend1
        simp only [Int.toNat_natCast, hk]
      rw [hm1] at hz
      have hf4 : wr.frozen? ⟨bc, a * 5 + 4, none⟩ = false := (own_set (i := a * 5 + 4) (y := .nilFunc) hoc (by omega)).2.1
      have hE : ∀ (u : World), KB (fun k => P k ∧ k ≠ wr.heap.size) q ⟨c, s.gaps, s.pl, s.nx⟩ (.slice (some ⟨bc, 0, none⟩) nc cc) (.slice (some ⟨bg, 0, none⟩) ng cg) u → u.cell? ⟨bc, a * 5 + 4, none⟩ = some (.int .u32 k.i) ∧ u.frozen? ⟨bc, a * 5 + 4, none⟩ = false := fun u hu => by
        have hoc := hu.oc
        rw [show c.length = nc from hcl.out] at hoc
        obtain ⟨b2, e2, hcc⟩ := own_cells hoc (by omega)
        cases e2
        exact ⟨hcc _ _ (flatC_at hk (j := 4) rfl), (own_set (i := a * 5 + 4) (y := .nilFunc) hoc (by omega)).2.1⟩
      have hK1 := hKj.al (.cells #[.int .i64 a, .int .i64 tl] 105)
      have A1 := (Arr.new wr 105 #[.int .i64 a, .int .i64 tl])
      have hmd := fun (u : World) (hu : KB (fun k => P k ∧ k ≠ wr.heap.size) q ⟨c, s.gaps, s.pl, s.nx⟩ (.slice (some ⟨bc, 0, none⟩) nc cc) (.slice (some ⟨bg, 0, none⟩) ng cg) u) => KB.mend (x := (k.i + (s.pl tl).getD 0) % 4294967296) hu hk hcl.out.symm
      have hne : bc ≠ wr.heap.size := by have := own_in hoc bc rfl; omega
      have hng2 : q.g ≠ bc := fun e => hKj.n2.1 (by rw [e]; rfl)
      have hlt' : (j : Int) < ng := by omega
      have hac : (a : Int) < nc := a1
      have hac' : a < nc := by omega
      have ha0 : (0 : Int) ≤ a := by omega
      have hj0 : (0 : Int) ≤ j := by omega
      have hw1 : IntKind.u32.wrap ((s.pl tl).getD 0) = (s.pl tl).getD 0 % 4294967296 := by simp only [IntKind.wrap]; first | omega | (simp [IntKind.bits, IntKind.signed])
      have hw2 : IntKind.u32.wrap (k.i + (s.pl tl).getD 0 % 4294967296) = (k.i + (s.pl tl).getD 0 % 4294967296) % 4294967296 := by simp only [IntKind.wrap]; first | omega | (simp [IntKind.bits, IntKind.signed])
      clear hcg hcc hog hoc k4 hf4 hm1 hga
      replace hk := hid hk
      replace hE := hid hE
      replace hmd := hid hmd
      have hll := hid fun (u : World) (hu : MapL u q.gm s.pl) => llook hu tl
      go_upto_region 3 with fail
      clear g0 g1
      generalize hpx : (s.pl tl).getD 0 = px at *
      replace hpx := hid hpx
      generalize hV : wr.alloc (.cells #[.int .i64 a, .int .i64 tl] 105) = V at *
      have hcV : Ch P wr V := by rw [← hV]; exact (Ch.refl P wr).al _
      generalize hbx : wr.heap.size = bx at *
      clear hV
      refine rgn (fun u => u.cell? ⟨bx, 0, none⟩ = some (.int .i64 a) ∧ u.cell? ⟨bx, 1, none⟩ = some (.int .i64 tl) ∧ u.cell? ⟨q.g, 3, none⟩ = some (.map (some q.gm)) ∧ MapL u q.gm s.pl) ⟨A1.drew.cell 0, A1.drew.cell 1, hK1.dw.c3, hK1.dw.mp⟩ (fun _ => ?_)
      refine tk 0 rfl ?_ (hy := by (intro u hSw; obtain ⟨s1, s2, s3, s4⟩ := hSw; go_simp; try (with_reducible rfl)))
      refine tk 1 rfl ?_ (hy := by (intro u hSw; obtain ⟨s1, s2, s3, s4⟩ := hSw; go_simp; try (with_reducible rfl)))
      refine tk 2 rfl ?_ (hy := by (intro u hSw; obtain ⟨s1, s2, s3, s4⟩ := hSw; go_simp; try (with_reducible rfl)))
      refine tk 3 rfl ?_ (hy := by (intro u hSw; obtain ⟨s1, s2, s3, s4⟩ := hSw; go_simp; try (with_reducible rfl)))
      refine tk 4 rfl ?_ (hy := by (intro u hSw; obtain ⟨s1, s2, s3, s4⟩ := hSw; go_simp; try (with_reducible rfl)))
      refine tk 6 rfl ?_ (hy := by (intro u hSw; obtain ⟨s1, s2, s3, s4⟩ := hSw; go_simp; try (with_reducible rfl)))
      refine tk 7 rfl ?_ (hy := by (intro u hSw; obtain ⟨s1, s2, s3, s4⟩ := hSw; go_simp; try (with_reducible rfl)))
      refine tk 8 rfl ?_ (hy := by (intro u hSw; obtain ⟨s1, s2, s3, s4⟩ := hSw; go_simp; try (with_reducible rfl)))
      refine tk 9 rfl ?_ (hy := by (intro u hSw; obtain ⟨s1, s2, s3, s4⟩ := hSw; go_simp; try (with_reducible rfl)))
      refine tk 10 rfl ?_ (hy := by (intro u hSw; obtain ⟨s1, s2, s3, s4⟩ := hSw; go_simp; try (with_reducible rfl)))
      refine tk 11 rfl ?_ (hy := by (intro u hSw; obtain ⟨s1, s2, s3, s4⟩ := hSw; go_simp; try (with_reducible rfl)))
      refine tk 12 rfl ?_ (hy := by (intro u hSw; obtain ⟨s1, s2, s3, s4⟩ := hSw; have hq := hll.out u s4; go_simp; try (with_reducible rfl)))
      refine tk 13 rfl ?_ (hy := by (intro u hSw; obtain ⟨s1, s2, s3, s4⟩ := hSw; go_simp; try (with_reducible rfl)))
      obtain ⟨i4, i5⟩ := hE.out _ hK1.dw
      refine rd 5 rfl (fun K hK' => ?_)
      go_simp
      refine ko hK' ⟨A1.drew.cell 0, A1.drew.cell 1, hK1.dw.c3, hK1.dw.mp⟩ (fun _ => ?_)
      clear hK'
      refine tk 14 rfl ?_ (hy := by (intro u hSw; obtain ⟨s1, s2, s3, s4⟩ := hSw; go_simp; try (with_reducible rfl)))
      refine tk 15 rfl ?_ (hy := by (intro u hSw; obtain ⟨s1, s2, s3, s4⟩ := hSw; go_simp; try (with_reducible rfl)))
      refine tk 16 rfl ?_ (hy := by (intro u hSw; obtain ⟨s1, s2, s3, s4⟩ := hSw; go_simp; try (with_reducible rfl)))
      refine rd 17 rfl (fun K hK' => ?_)
      go_simp
      obtain ⟨m1, m2⟩ := hmd.out _ hK1
      replace m1 := m1.dw
      replace m2 := m2.dw
      have A2 := (A1.setOther (a := ⟨bc, a * 5 + 4, none⟩) (.int .u32 ((k.i + px) % 4294967296)) (show bx ≠ bc from hne.symm)).drew
      refine ko hK' ⟨A2.cell 0, A2.cell 1, m1.c3, m1.mp⟩ (fun _ => ?_)
      clear hK'
      refine dn ?_
      go_wp2_with fail
      go_roundw
      case rel => exact ⟨j + 1, _, by go_num, by omega, hz, hid (by simpa using hcl.out), m1.wk fun k e => e.1, (hcj.trans hcV).trans (m2.mono fun k _ e => e.1)⟩
      case measure => simp [intOf]; omega
    · obtain rfl : j = ng := by omega
      have hsf : c = fin := by have h := hz.out; rw [hng.out, List.drop_length] at h; exact h
      subst hsf
      have hlt' : ¬ (j : Int) < j := by omega
      clear hz hF
      go_wp2_with fail
      go_end0
      exact ⟨rfl, hKj, hcj⟩
end Go.Proofs.Ytimmiidkjpbffaa
/- Layer compile: the kinds. -/
namespace Go.Proofs.Ytimmiidkjpbffaa
open Go.RowKit
set_option maxRecDepth 100000
set_option linter.unusedVariables false
set_option linter.unusedSimpArgs false

def stA (g : Nat) : Array Value := #[.nilFunc, mF 49 g, mF 50 g, mF 51 g, mF 52 g, mF 53 g, mF 54 g, mF 55 g, mF 56 g, mF 57 g]
def exA (g : Nat) : Array Value := #[.nilFunc, mF 58 g, mF 59 g, mF 60 g, mF 61 g]
theorem size75' : (Try.prog.info? 75).map (·.size) = some 10 := by kernel_rfl
theorem size77' : (Try.prog.info? 77).map (·.size) = some 5 := by kernel_rfl
set_option maxHeartbeats 1000000 in
theorem stmtKinds_any {g : Nat} (w : World) : Calls Try.prog 40 #[.pointer (some ⟨g, 0, none⟩)] w fun e w' => e = .returned (.agg (stA g)) ∧ Below w.heap.size w w' := by
  have hmf : ∀ (fn : Fn) (first cap : Array Value) (w : World), (Instr.makeFunc fn first cap).run Try.prog w = .ok (.func fn first cap) w := fun _ _ _ _ => rfl
  have A := Arr.new w 75 #[.nilFunc, .nilFunc, .nilFunc, .nilFunc, .nilFunc, .nilFunc, .nilFunc, .nilFunc, .nilFunc, .nilFunc]
  have B := alloc_bel' w (.cells #[.nilFunc, .nilFunc, .nilFunc, .nilFunc, .nilFunc, .nilFunc, .nilFunc, .nilFunc, .nilFunc, .nilFunc] 75)
  have a0 := A.cell 0
  have f0 := A.frozen 0
  have a1 := A.cell 1
  have f1 := A.frozen 1
  have a2 := A.cell 2
  have f2 := A.frozen 2
  have a3 := A.cell 3
  have f3 := A.frozen 3
  have a4 := A.cell 4
  have f4 := A.frozen 4
  have a5 := A.cell 5
  have f5 := A.frozen 5
  have a6 := A.cell 6
  have f6 := A.frozen 6
  have a7 := A.cell 7
  have f7 := A.frozen 7
  have a8 := A.cell 8
  have f8 := A.frozen 8
  have a9 := A.cell 9
  have f9 := A.frozen 9
  go_enter Try.func40, Try.ntmps40
  go_wp2_with fail
  exact bodyPost_ret (results_cell_row Try.results40 _ _ w.heap.size 75 _ (0, 0) _ rfl (Arr.new w 75 (stA g)) Try.underlying75 rfl size75') rfl ⟨rfl, alloc_bel' w _⟩
set_option maxHeartbeats 1000000 in
theorem exprKinds_any {g : Nat} (w : World) : Calls Try.prog 41 #[.pointer (some ⟨g, 0, none⟩)] w fun e w' => e = .returned (.agg (exA g)) ∧ Below w.heap.size w w' := by
  have hmf : ∀ (fn : Fn) (first cap : Array Value) (w : World), (Instr.makeFunc fn first cap).run Try.prog w = .ok (.func fn first cap) w := fun _ _ _ _ => rfl
  have A := Arr.new w 77 #[.nilFunc, .nilFunc, .nilFunc, .nilFunc, .nilFunc]
  have B := alloc_bel' w (.cells #[.nilFunc, .nilFunc, .nilFunc, .nilFunc, .nilFunc] 77)
  have a0 := A.cell 0
  have f0 := A.frozen 0
  have a1 := A.cell 1
  have f1 := A.frozen 1
  have a2 := A.cell 2
  have f2 := A.frozen 2
  have a3 := A.cell 3
  have f3 := A.frozen 3
  have a4 := A.cell 4
  have f4 := A.frozen 4
  go_enter Try.func41, Try.ntmps41
  go_wp2_with fail
  exact bodyPost_ret (results_cell_row Try.results41 _ _ w.heap.size 77 _ (0, 0) _ rfl (Arr.new w 77 (exA g)) Try.underlying77 rfl size77') rfl ⟨rfl, alloc_bel' w _⟩
end Go.Proofs.Ytimmiidkjpbffaa
/- Layer compile: a new builder. -/
namespace Go.Proofs.Ytimmiidkjpbffaa
open Go.RowKit
set_option maxRecDepth 100000
set_option linter.unusedVariables false
set_option linter.unusedSimpArgs false

variable {N : Nat}
def iC (l : List Int) : List Value := l.map (Value.int .i64)
theorem info3' : (Try.prog.info? 3).map (fun i => (i.zero, i.size, i.bytes)) = some (some (.int .i64 0), 1, 8) := by kernel_rfl
theorem wp_apI {o : Oper} {a : Act} {w : World} {K : Act → World → Prop} {Q : Exit → Act → World → Prop} (s x : Operand) (ho : o.op = .call { callee := .builtin .append, args := #[s, x], argTypes := #[73, 73] })
    (v : Value) (gs : List Int) (p : Int) (hs : a.eval s = v) (base : Nat) (hown : w.ownsRow base 3 1 v gs.length (iC gs)) (gx c : Nat) (hx : a.eval x = .slice (some ⟨gx, 0, none⟩) 1 c) (ty : Nat) (hA : Arr w gx ty #[.int .i64 p]) (hb : gs.length ≤ 1000000) (hbase : base ≤ w.heap.size)
    (h : ∀ v' w', w'.ownsRow base 3 1 v' (gs ++ [p]).length (iC (gs ++ [p])) → w.grownBy w' v.ownBlock → (v'.ownBlock = v.ownBlock ∨ v'.ownBlock = some w.heap.size) → K (a.put o.dst v') w') : o.wp Try.prog a w K Q := by
  obtain ⟨i0, hi0, hz0, hz1, hz2⟩ := info_parts' info3'
  obtain ⟨v', w', hr, h2, h3, -, h5⟩ := run_append_own_at (P := Try.prog) w base 73 o.type 3 i0 (.int .i64 0) 1 8 Try.underlying73 hi0 hz0 hz1 hz2 rfl (by omega) v gs.length _ hown ⟨gx, 0, none⟩ 1 c (iC [p]) rfl (fun j u hj => by
    rw [Addr.add_mid, Nat.zero_add, hA.cell]
    simpa [iC] using hj) (by simp [iC, Value.oneCell']) (by unfold maxLen; omega) (by omega) hbase
  unfold Oper.wp execOp
  simp only [ho, resolve, invoke, builtin, Sem.run_bind, Sem.run_pure, Result.andThen_ok, List.map_toArray, List.map_cons, List.map_nil, hs, hx, hr]
  exact h v' w' (by rw [show iC (gs ++ [p]) = iC gs ++ iC [p] by simp [iC], List.length_append]; exact h2) h3 h5
/-- A builder whose kinds are not there yet. -/
def nbA (sv : Value) (da : Int) (gc gm : Nat) (fv : Value) (sl : Int) : Array Value := #[sv, .int .i64 da, pF gc, .map (some gm), .slice none 0 0, .int .i64 34, fv, .int .i64 sl, .int .i64 0, .int .i64 0, .nilFunc, .nilFunc, .nilFunc, .nilFunc, .nilFunc, .nilFunc, .nilFunc, .nilFunc, .nilFunc, .nilFunc, .nilFunc, .nilFunc, .nilFunc, .nilFunc, .nilFunc]
/-- .. in the loop over the functions. -/
structure NB (w0 : World) (b : Nat) (sv : Value) (da : Int) (gc gm g : Nat) (fv : Value) (fr : List Int) (sl : Int) (w : World) : Prop where
  ar : Arr w g 79 (nbA sv da gc gm fv sl)
  mp : MapL w gm fun _ => none
  ow : w.ownsRow b 3 1 fv fr.length (iC fr)
  ne : g ≠ gm ∧ fv.ownBlock ≠ some g ∧ fv.ownBlock ≠ some gm
  ge : b ≤ g ∧ b ≤ gm
  bl : Below b w0 w
theorem NB.al {w0 w : World} {b gc gm g : Nat} {sv fv : Value} {da sl : Int} {fr : List Int} (h : NB w0 b sv da gc gm g fv fr sl w) (hb : b ≤ w.heap.size) (o : Obj) : NB w0 b sv da gc gm g fv fr sl (w.alloc o) :=
  ⟨h.ar.alloc o, h.mp.same (heap_alloc_old w o h.mp.lt), own_mv h.ow fun k e => heap_alloc_old w o (own_in h.ow k e).2, h.ne, h.ge, h.bl.alloc hb o⟩
theorem NB.dw {w0 w : World} {b gc gm g : Nat} {sv fv : Value} {da sl : Int} {fr : List Int} (h : NB w0 b sv da gc gm g fv fr sl w) : NB w0 b sv da gc gm g fv fr sl w.drew :=
  ⟨h.ar.drew, h.mp.same rfl, own_mv h.ow fun k e => rfl, h.ne, h.ge, h.bl.drew⟩
theorem NB.app {w0 w w1 : World} {b gc gm g : Nat} {sv fv v1 : Value} {da sl x : Int} {fr : List Int} (h : NB w0 b sv da gc gm g fv fr sl w) (hb : b ≤ w.heap.size) (ho : w1.ownsRow b 3 1 v1 (fr ++ [x]).length (iC (fr ++ [x]))) (hg : w.grownBy w1 fv.ownBlock) (hne : v1.ownBlock = fv.ownBlock ∨ v1.ownBlock = some w.heap.size) :
    NB w0 b sv da gc gm g v1 (fr ++ [x]) sl (w1.setCell ⟨g, 6, none⟩ v1) := by
  have hs : ∀ k, k ≠ g → (w1.setCell ⟨g, 6, none⟩ v1).heap[k]? = w1.heap[k]? := fun k hk => Below.heap_setCell _ _ _ _ (fun e => hk (by have e' : k = g := e; exact e'))
  have hv : ∀ k, v1.ownBlock = some k → fv.ownBlock = some k ∨ k = w.heap.size := fun k e => by
    rcases hne with e1 | e1
    · exact .inl (e1.symm.trans e)
    · rw [e1] at e; exact .inr (Option.some.inj e).symm
  have l1 := h.ar.lt
  have l2 := h.mp.lt
  have har : Arr w1 g 79 (nbA sv da gc gm fv sl) := (hg.block _ l1 (fun e => h.ne.2.1 e.symm)).trans h.ar
  refine ⟨har.set 6 v1, h.mp.same ((hs _ h.ne.1.symm).trans (hg.block _ l2 (fun e => h.ne.2.2 e.symm))), own_mv ho fun k e => hs k (fun e' => ?_), ⟨h.ne.1, fun e => ?_, fun e => ?_⟩, h.ge, ?_⟩
  · subst e'
    rcases hv _ e with e | e
    · exact h.ne.2.1 e
    · omega
  · rcases hv _ e with e | e
    · exact h.ne.2.1 e
    · omega
  · rcases hv _ e with e | e
    · exact h.ne.2.2 e
    · omega
  · have b1 : Below b w0 w1 := ⟨hg.os.trans h.bl.os, hg.tape.trans h.bl.tape, hg.output.trans h.bl.output, Nat.le_trans h.bl.size hg.size, fun k hk => ((hg.block k (by omega) (fun e => by have := (own_in h.ow k e.symm).1; omega)).trans (h.bl.block k hk))⟩
    exact b1.setCell h.ge.1 _
theorem NB.sl {w0 w : World} {b gc gm g : Nat} {sv fv : Value} {da sl y : Int} {fr : List Int} (h : NB w0 b sv da gc gm g fv fr sl w) : NB w0 b sv da gc gm g fv fr y (w.setCell ⟨g, 7, none⟩ (.int .i64 y)) := by
  have hs : ∀ k, k ≠ g → (w.setCell ⟨g, 7, none⟩ (.int .i64 y)).heap[k]? = w.heap[k]? := fun k hk => Below.heap_setCell _ _ _ _ (fun e => hk (by have e' : k = g := e; exact e'))
  exact ⟨h.ar.set 7 _, h.mp.same (hs _ h.ne.1.symm), own_mv h.ow fun k e => hs k (fun e' => h.ne.2.1 (e' ▸ e)), h.ne, h.ge, h.bl.setCell h.ge.1 _⟩
theorem kFrs_len : ∀ (l : List FuT) (n : Int), (kFrs l n).length = l.length
  | [], n => rfl
  | f :: r, n => by simp [kFrs, kFrs_len r]
theorem kFrs_snoc : ∀ (l : List FuT) (f : FuT) (n : Int), kFrs (l ++ [f]) n = kFrs l n ++ [n + kSlots l]
  | [], f, n => by simp [kFrs, kSlots]
  | g :: r, f, n => by
    simp only [List.cons_append, kFrs, kFrs_snoc r f, kSlots]
    congr 3
    omega
theorem kSlots_snoc : ∀ (l : List FuT) (f : FuT), kSlots (l ++ [f]) = kSlots l + (1 + f.v)
  | [], f => by simp [kSlots]
  | g :: r, f => by simp only [List.cons_append, kSlots, kSlots_snoc r f]; omega
theorem kSlots_le : ∀ (l : List FuT), (∀ f ∈ l, 0 ≤ f.v ∧ f.v ≤ 64) → 0 ≤ kSlots l ∧ kSlots l ≤ 65 * l.length
  | [], _ => by simp [kSlots]
  | f :: r, h => by
    have h1 := h f (by simp)
    have h2 := kSlots_le r fun g hg => h g (by simp [hg])
    simp only [kSlots, List.length_cons]
    push_cast
    omega
end Go.Proofs.Ytimmiidkjpbffaa
